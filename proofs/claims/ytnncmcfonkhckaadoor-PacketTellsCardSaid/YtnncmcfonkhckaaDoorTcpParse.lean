/- TcpParse: What 'handfast/tcp.Parse' answers: bytes of a right number. Plain facts on segments: what is put is parsed; a bit turned is told; the pseudo-head of other addresses. -/
import Derived.Test.YtnncmcfonkhckaaDoorTcpCore

/- What 'handfast/tcp.Parse' answers: bytes of a right number. -/
namespace Go.Proofs.YtnncmcfonkhckaaDoor
open Go.RowKit Go.Shelf
open SumM

attribute [local go_sem] Oper.semAt_some

/-- What the loop has laid into the head. -/
def tS (l : List (Nat × Int)) : Int := l.foldl (fun a x => if x.1 = 0 then x.2 else a) 0
def tD (l : List (Nat × Int)) : Int := l.foldl (fun a x => if x.1 = 2 then x.2 else a) 0
def tF (l : List (Nat × Int)) : Int := l.foldl (fun a x => if x.1 = 12 then x.2 % 256 else a) 0
def tH (l : List (Nat × Int)) : Int := l.foldl (fun a x => if x.1 = 12 then x.2 / 4096 * 4 else a) 0
theorem tS_snoc (l : List (Nat × Int)) (x : Nat × Int) : tS (l ++ [x]) = if x.1 = 0 then x.2 else tS l := by simp [tS]
theorem tD_snoc (l : List (Nat × Int)) (x : Nat × Int) : tD (l ++ [x]) = if x.1 = 2 then x.2 else tD l := by simp [tD]
theorem tF_snoc (l : List (Nat × Int)) (x : Nat × Int) : tF (l ++ [x]) = if x.1 = 12 then x.2 % 256 else tF l := by simp [tF]
theorem tH_snoc (l : List (Nat × Int)) (x : Nat × Int) : tH (l ++ [x]) = if x.1 = 12 then x.2 / 4096 * 4 else tH l := by simp [tH]
/-- The cells of the head under way. -/
def tcur (l : List (Nat × Int)) : Array Value := #[.int .u16 (tS l), .int .u16 (tD l), .int .u8 (tF l), .int .i64 (tH l), .slice none 0 0]
theorem tall {bs : List Int} (h : In 255 bs) : (uptoA (ptAt bs h) 10).map (·.1) = (List.range 10).map (fun k => (2 * k, wordAt bs k)) := by
  simp [uptoA, List.range_succ, ptAt_val h]
theorem tcur_all {bs : List Int} (h : In 255 bs) : tcur ((uptoA (ptAt bs h) 10).map (·.1)) = #[.int .u16 (wordAt bs 0), .int .u16 (wordAt bs 1), .int .u8 (bs[13]?.getD 0), .int .i64 (thl bs), .slice none 0 0] := by
  have h1 := getD_in h (by decide) 12
  have h2 := getD_in h (by decide) 13
  have e1 : wordAt bs 6 = 256 * bs[12]?.getD 0 + bs[13]?.getD 0 := rfl
  have e2 : wordAt bs 6 % 256 = bs[13]?.getD 0 := by omega
  have e3 : wordAt bs 6 / 4096 * 4 = thl bs := by unfold thl; omega
  rw [tall]
  unfold tcur
  simp [tS, tD, tF, tH, List.range_succ, e2, e3]

/-- A head, or why there is none. -/
def TParseRet (s d : Int) (bs : List Int) (w : World) (e : Ending) (w' : World) : Prop :=
  (twhy s d bs ≠ 0 ∧ e = .returned (.tuple #[.agg #[.int .u16 0, .int .u16 0, .int .u8 0, .int .i64 0, .slice none 0 0], .int .u8 (twhy s d bs)]) ∧ Below w.heap.size w w') ∨
  (twhy s d bs = 0 ∧ ∃ A c, e = .returned (.tuple #[.agg #[.int .u16 (wordAt bs 0), .int .u16 (wordAt bs 1), .int .u8 (bs[13]?.getD 0), .int .i64 (thl bs), .slice A (bs.drop (thl bs).toNat).length c], .int .u8 0]) ∧
    w'.ownsRow w.heap.size 5 1 (.slice A (bs.drop (thl bs).toNat).length c) (bs.drop (thl bs).toNat).length ((bs.drop (thl bs).toNat).map (Value.int .u8)) ∧ Below w.heap.size w w')

set_option maxRecDepth 100000 in
set_option maxHeartbeats 8000000 in
theorem tcpParse_in (s d : Int) (hs : 0 ≤ s ∧ s ≤ 4294967295) (hd' : 0 ≤ d ∧ d ≤ 4294967295) (n : Nat) (hn : 4 ≤ n) (a : Option Addr) (len cap : Nat) (bs : List Int) (hlen : bs.length = len) (h20 : 20 ≤ len) (hbig : len ≤ 65535) (hlc : len ≤ cap) (_ : cap ≤ 9223372036854775807) (w : World) (hR : Row .u8 w.heap.size w a bs) :
    CallsIn Fence.wide n Tryd.prog 38 #[.int .u32 s, .int .u32 d, .slice a len cap] w (TParseRet s d bs w) := by
  have h1n : 1 ≤ n := by omega
  have HL := Lib.hid hlen
  clear hlen
  have hin := row_in hR
  refine callsIn_of_wp_marks Tryd.func38 rfl trivial ?_ rfl
  simp only [Tryd.ntmps38, List.size_toArray, List.length_cons, List.length_nil, Nat.reduceAdd, Nat.reduceSub, Array.replicate_succ, Array.replicate_zero, List.push_toArray, List.append_toArray, List.nil_append, List.cons_append]
  have d1 := heap_alloc_new w (.cells #[.int .u16 0, .int .u16 0, .int .u8 0, .int .i64 0, .slice none 0 0] 46)
  have L0 : Below w.heap.size w (w.alloc (.cells #[.int .u16 0, .int .u16 0, .int .u8 0, .int .i64 0, .slice none 0 0] 46)) := (Below.refl _ w).alloc (Nat.le_refl _) _
  have hs0 : (w.alloc (.cells #[.int .u16 0, .int .u16 0, .int .u8 0, .int .i64 0, .slice none 0 0] 46)).heap.size = w.heap.size + 1 := by simp
  gi_wp2
  rw [wpIn_wide]
  refine wp_scope_jumps 0 (fun a' w' => ∃ (y z0 z1 z2 z3 : Int) (D : Nat) (u0 u1 u2 u3 u4 u5 u8 u9 u10 u11 u12 u13 u14 u15 u16 u17 u18 u19 u20 u21 u22 u23 u24 u25 u26 u27 u28 u29 u30 u31 u32 u33 u34 u35 u36 u37 u38 u39 u40 u41 u42 u43 u44 u45 u46 u47 u48 u49 u50 u51 u52 u53 u54 u55 u56 u57 u58 u59 u60 u61 u62 u63 u64 u65 : Value), a' = { tmps := #[u0, u1, u2, u3, u4, u5, .pointer (some ⟨w.heap.size, 0, none⟩), .int .u8 y, u8, u9, u10, u11, u12, u13, u14, u15, u16, u17, u18, u19, u20, u21, u22, u23, u24, u25, u26, u27, u28, u29, u30, u31, u32, u33, u34, u35, u36, u37, u38, u39, u40, u41, u42, u43, u44, u45, u46, u47, u48, u49, u50, u51, u52, u53, u54, u55, u56, u57, u58, u59, u60, u61, u62, u63, u64, u65], defers := [{ target := .collected D, args := #[] }] } ∧ (y = twhy s d bs ∧ 0 < y ∧ y < 10) ∧ w'.heap[w.heap.size]? = some (.cells #[.int .u16 z0, .int .u16 z1, .int .u8 z2, .int .i64 z3, .slice none 0 0] 46 (0, 0)) ∧ Below w.heap.size w w' ∧ w'.heap[D]? = some (.deferred (some [])) ∧ w.heap.size + 2 ≤ D) (fun _ _ => 0) rfl ?first ?pass
  case pass =>
    rintro a' w' ⟨y, z0, z1, z2, z3, D, u0, u1, u2, u3, u4, u5, u8, u9, u10, u11, u12, u13, u14, u15, u16, u17, u18, u19, u20, u21, u22, u23, u24, u25, u26, u27, u28, u29, u30, u31, u32, u33, u34, u35, u36, u37, u38, u39, u40, u41, u42, u43, u44, u45, u46, u47, u48, u49, u50, u51, u52, u53, u54, u55, u56, u57, u58, u59, u60, u61, u62, u63, u64, u65, rfl, ⟨hy, hy0, hy7⟩, hd, LL, hK, hD3⟩
    obtain ⟨q0, q1, q2, q3, q4⟩ := tcp_cells _ _ _ _ _ _ _ hd
    have f0 := tcp_frozen hd 0
    have f1 := tcp_frozen hd 1
    have f2 := tcp_frozen hd 2
    have f3 := tcp_frozen hd 3
    have f4 := tcp_frozen hd 4
    have C5 := Lib.hid (full_setCells hd [.int .u16 0, .int .u16 0, .int .u8 0, .int .i64 0, .slice none 0 0] rfl)
    have L5 := Lib.hid (below_setCells w.heap.size (Nat.le_refl _) [.int .u16 0, .int .u16 0, .int .u8 0, .int .i64 0, .slice none 0 0] 0 w _ LL)
    have K5 := Lib.hid ((others_setCells w.heap.size [.int .u16 0, .int .u16 0, .int .u8 0, .int .i64 0, .slice none 0 0] 0 w').same D _ hK rfl)
    have HY := Lib.hid hy
    clear d1 L0 hs0 hy
    go_wp2
    simp only [Exit.jump]
    refine ⟨by simp, .inl ⟨_, _, rfl, run_takeDeferred K5.out, ?_⟩⟩
    refine ⟨_, results_tcp rfl _ _ w.heap.size _ (0, 0) rfl ((World.putObj_heap_other (by omega)).trans C5.out) rfl, ?_⟩
    refine .inl ⟨by rw [← HY.out]; omega, by rw [← HY.out]; rfl, ?_⟩
    exact L5.out.trans (belowK_b (w := w) (Nat.le_refl _) _ D _ _ (by omega) K5.out rfl rfl)
  case first =>
    rw [← wpIn_wide (n := n)]
    have q1 : decide ((len : Int) < 20) = false := decide_eq_false (by omega)
    have q2 : decide ((65535 : Int) < len) = false := decide_eq_false (by omega)
    gi_wp2_with fail
    generalize w.alloc (.cells #[.int .u16 0, .int .u16 0, .int .u8 0, .int .i64 0, .slice none 0 0] 46) = W0 at *
    refine ⟨trivial, (tnumbersIn_in (n - 1) a len cap W0).mono ?_⟩
    rintro e w1 ⟨rfl, rfl⟩
    have bS := Boxed.new W0 22 (.slice a len cap)
    have d2 := (Below.heap_alloc W0 (.cells #[.slice a len cap] 22) w.heap.size (by omega)).trans d1
    have L1 := L0.alloc (by omega) (.cells #[.slice a len cap] 22)
    have hs1 : (W0.alloc (.cells #[.slice a len cap] 22)).heap.size = w.heap.size + 2 := by simp; omega
    rw [hs0] at bS
    clear d1 L0
    gi_wp2
    generalize W0.alloc (.cells #[.slice a len cap] 22) = V at *
    refine wpIn_rangeFunc_ownG rfl h1n (gf := 69) (lb := #[.pointer (some ⟨w.heap.size + 1, 0, none⟩)]) rfl trivial (enters_of Tryd.func69 (by kernel_rfl) rfl)
      (tnumsIn_stops (n - 1) (by omega) (w.heap.size + 1) w.heap.size len cap a bs hin HL.out h20 V (by omega) bS (hR.below L1)) keep_t (keep_b (by omega)) (Below.refl _ _) (fun _ => rfl)
      (fun pre W => W.heap[w.heap.size]? = some (.cells (tcur (pre.map (·.1))) 46 (0, 0)) ∧ Below w.heap.size w W ∧ V.heap.size ≤ W.heap.size)
      (fun _ _ _ => False)
      ?own
      (fun _ _ _ _ _ hs _ _ => hs)
      ⟨d2, L1, Nat.le_refl _⟩
      (fun x => { tmps := #[.int .u32 s, .int .u32 d, .slice a len cap, undef, undef, undef, .pointer (some ⟨w.heap.size, 0, none⟩), .int .u8 8, .int .i64 x.1.1, .int .u16 x.1.2, .slice a len cap, .int .i64 len, .bool false, .bool false, .slice a len cap, .int .i64 len, .bool false, .bool false, .slice a len cap, .func (.func 69) #[] #[.pointer (some ⟨w.heap.size + 1, 0, none⟩)], .int .i64 x.1.1, .int .u16 x.1.2, undef, undef, undef, undef, undef, undef, undef, undef, undef, undef, undef, undef, undef, undef, undef, undef, undef, undef, undef, undef, undef, undef, undef, undef, undef, undef, undef, undef, undef, undef, undef, undef, undef, undef, undef, undef, undef, undef, undef, undef, undef, undef, undef, undef], defers := [] }) ?assign ?body ?done ?stop
    case own =>
      rintro pre W W' row ⟨hD, hb, hv⟩ hgr hr
      exact ⟨(hgr.block _ (by omega) (fun e => by have := (hr _ e.symm).1; omega)).trans hD, hb.grown hgr hb.size (fun k e => by have := (hr k e).1; omega), Nat.le_trans hv hgr.size⟩
    case assign =>
      intro l x W K hK
      gi_wp2
      exact hK
    case body =>
      rintro l pre x W ⟨hD, hb, hv⟩ hlt
      obtain ⟨⟨j, v⟩, hj, hv0, hv1⟩ := x
      simp only at hj hv0 hv1
      obtain ⟨q0, q1, q2, q3, q4⟩ := tcp_cells _ _ _ _ _ _ _ hD
      have f0 := tcp_frozen hD 0
      have f1 := tcp_frozen hD 1
      have f2 := tcp_frozen hD 2
      have f3 := tcp_frozen hD 3
      have hS := tS_snoc (pre.map (·.1)) (j, v)
      have hDD := tD_snoc (pre.map (·.1)) (j, v)
      have hF := tF_snoc (pre.map (·.1)) (j, v)
      have hH := tH_snoc (pre.map (·.1)) (j, v)
      simp only at hS hDD hF hH
      have hT : tcur ((pre ++ [(⟨(j, v), hj, hv0, hv1⟩ : PT)]).map (·.1)) = #[.int .u16 (if j = 0 then v else tS (pre.map (·.1))), .int .u16 (if j = 2 then v else tD (pre.map (·.1))), .int .u8 (if j = 12 then v % 256 else tF (pre.map (·.1))), .int .i64 (if j = 12 then v / 4096 * 4 else tH (pre.map (·.1))), .slice none 0 0] := by
        rw [List.map_append]
        unfold tcur
        simp only [List.map_cons, List.map_nil, hS, hDD, hF, hH]
      have HT := Lib.hid hT
      clear hT hS hDD hF hH
      by_cases e0 : j = 0
      · subst e0
        gi_wp2
        refine ⟨(KeepsOthers.setCell _ _ _).from _, Keep.setCell W (p := ⟨w.heap.size, 0, none⟩) (by simp) (by simp) _, ?_, hb.setCell (p := ⟨w.heap.size, 0, none⟩) (by simp) _, ?_⟩
        · rw [heap_setCell_same W w.heap.size 0 _ _ _ hD, HT.out]
          simp [tcur]
        · rw [World.size_setCell]; omega
      have n0 : ((j : Int) == 0) = false := by simp; omega
      by_cases e2 : j = 2
      · subst e2
        gi_wp2
        refine ⟨(KeepsOthers.setCell _ _ _).from _, Keep.setCell W (p := ⟨w.heap.size, 1, none⟩) (by simp) (by simp) _, ?_, hb.setCell (p := ⟨w.heap.size, 1, none⟩) (by simp) _, ?_⟩
        · rw [heap_setCell_same W w.heap.size 1 _ _ _ hD, HT.out]
          simp [tcur]
        · rw [World.size_setCell]; omega
      have n2 : ((j : Int) == 2) = false := by simp; omega
      by_cases e12 : j = 12
      · subst e12
        gi_wp2
        have k1 := Keep.setCell W (n := w.heap.size) (bx := [w.heap.size + 1]) (p := ⟨w.heap.size, 3, none⟩) (by simp) (by simp) (.int .i64 (v / 4096 * 4))
        refine ⟨((KeepsOthers.setCell _ _ _).trans (KeepsOthers.setCell _ _ _)).from _, keep_t k1 (Keep.setCell _ (p := ⟨w.heap.size, 2, none⟩) (by simp) (by simp) _), ?_, (hb.setCell (p := ⟨w.heap.size, 3, none⟩) (by simp) _).setCell (p := ⟨w.heap.size, 2, none⟩) (by simp) _, ?_⟩
        · rw [heap_setCell_same _ w.heap.size 2 _ _ _ (heap_setCell_same W w.heap.size 3 _ _ _ hD), HT.out]
          simp [tcur]
        · rw [World.size_setCell, World.size_setCell]; omega
      have n12 : ((j : Int) == 12) = false := by simp; omega
      gi_wp2
      refine ⟨(KeepsOthers.refl _).from _, Keep.refl _ _ _, ?_, hb, ?_⟩
      · rw [HT.out, hD, if_neg e0, if_neg e2, if_neg e12, if_neg e12]
        rfl
      · omega
    case stop =>
      rintro D c pre W _ _ h _
      exact h.elim
    case done =>
      rintro D ys W hD2 hys ⟨hD, hb, hv⟩ hK
      rw [hys, tcur_all hin] at hD
      obtain ⟨q0, q1, q2, q3, q4⟩ := tcp_cells _ _ _ _ _ _ _ hD
      have z1 := getD_in hin (by decide) 12
      have hz : 0 ≤ thl bs ∧ thl bs ≤ 60 := by unfold thl; omega
      have LN := Lib.hid (show ¬ (bs.length < 20 ∨ 65535 < bs.length) by rw [HL.out]; omega)
      have TS := Lib.hid (show tsum s d bs = sumOf (psOf s d len ++ bs) by unfold tsum; rw [HL.out])
      obtain ⟨th, hth⟩ : ∃ k, thl bs = k := ⟨_, rfl⟩
      rw [hth] at hz hD q3
      have TH := Lib.hid hth
      clear hth z1
      simp only [Exit.inBlock, Exit.then]
      apply_assumption
      rw [wpIn_wide]
      by_cases e3 : th < 20
      · have e3' : decide (th < 20) = true := decide_eq_true e3
        have hy : Hid ((8 : Int) = twhy s d bs) := Lib.hid <| by
          unfold twhy
          rw [if_neg LN.out, if_pos (.inl (by rw [TH.out]; exact e3))]
        go_wp2
        go_step3
        exact ⟨rfl, 8, _, _, _, _, D, _, _, _, _, _, _, _, _, _, _, _, _, _, _, _, _, _, _, _, _, _, _, _, _, _, _, _, _, _, _, _, _, _, _, _, _, _, _, _, _, _, _, _, _, _, _, _, _, _, _, _, _, _, _, _, _, _, _, _, _, _, _, _, _, rfl, ⟨hy.out, by omega, by omega⟩, hD, hb, hK, by omega⟩
      have e3' : decide (th < 20) = false := decide_eq_false e3
      by_cases e4 : (len : Int) < th
      · have e4' : decide ((len : Int) < th) = true := decide_eq_true e4
        have hy : Hid ((8 : Int) = twhy s d bs) := Lib.hid <| by
          unfold twhy
          rw [if_neg LN.out, if_pos (.inr (by rw [TH.out, HL.out]; exact e4))]
        go_wp2
        go_step3
        exact ⟨rfl, 8, _, _, _, _, D, _, _, _, _, _, _, _, _, _, _, _, _, _, _, _, _, _, _, _, _, _, _, _, _, _, _, _, _, _, _, _, _, _, _, _, _, _, _, _, _, _, _, _, _, _, _, _, _, _, _, _, _, _, _, _, _, _, _, _, _, _, _, _, _, rfl, ⟨hy.out, by omega, by omega⟩, hD, hb, hK, by omega⟩
      have e4' : decide ((len : Int) < th) = false := decide_eq_false e4
      have hPL := Lib.hid (show (psOf s d len ++ bs).length = 12 + len by rw [List.length_append, psOf_length, HL.out])
      obtain ⟨b, off, rfl, hbw, hcz⟩ := hR.2 (by rw [HL.out]; omega)
      clear hcz
      have RW := Lib.hid (hR.step hb)
      by_cases eR : sumOf (psOf s d len ++ bs) = 65535
      case neg =>
        have eR' : (sumOf (psOf s d len ++ bs) == 65535) = false := by simp [eR]
        have hy : Hid ((9 : Int) = twhy s d bs) := Lib.hid <| by
          unfold twhy
          rw [if_neg LN.out, if_neg (by rw [TH.out, HL.out]; omega), if_pos (by rw [TS.out]; exact eR)]
        clear eR
        go_wp2_with (first
          | (go_at_call 43; refine (withPs_any s d hs hd' _ len cap bs HL.out (by omega) W RW.out (fun h => by cases h)).mono ?_; rintro e w8 ⟨A8, c8, rfl, r8, m8⟩)
          | (go_at_call 60; refine (right_any A8 _ c8 (psOf s d len ++ bs) hPL.out (by omega) w8 r8).mono ?_; rintro e w9 ⟨he, m9⟩; rw [eR'] at he; subst he))
        go_step3
        have m89 := m8.trans (m9.mono m8.size)
        exact ⟨rfl, 9, _, _, _, _, D, _, _, _, _, _, _, _, _, _, _, _, _, _, _, _, _, _, _, _, _, _, _, _, _, _, _, _, _, _, _, _, _, _, _, _, _, _, _, _, _, _, _, _, _, _, _, _, _, _, _, _, _, _, _, _, _, _, _, _, _, _, _, _, _, rfl, ⟨hy.out, by omega, by omega⟩, (m89.block _ (by omega)).trans hD, hb.trans (m89.mono hb.size), (m89.block D (Array.getElem?_eq_some_iff.1 hK).1).trans hK, by omega⟩
      case pos =>
        have eR' : (sumOf (psOf s d len ++ bs) == 65535) = true := by simp [eR]
        have hy : Hid (twhy s d bs = 0) := Lib.hid <| by
          unfold twhy
          rw [if_neg LN.out, if_neg (by rw [TH.out, HL.out]; omega), if_neg (by rw [TS.out, eR]; simp)]
        clear eR
        have hl1 : (0 : Int) ≤ th := by omega
        have hl2 : th ≤ (cap : Int) := by omega
        have hl3 : th ≤ (len : Int) := by omega
        have hp9 : (bs.drop th.toNat).length = len - th.toNat := by rw [List.length_drop, HL.out]
        obtain ⟨AP, hAP⟩ : ∃ A, (if cap = th.toNat then some (⟨b, off, none⟩ : Addr) else some ⟨b, off + th.toNat, none⟩) = A := ⟨_, rfl⟩
        obtain ⟨PS, hPS⟩ : ∃ l, bs.drop th.toNat = l := ⟨_, rfl⟩
        have RP := Lib.hid (fun W' (m : Below W.heap.size W W') => show Row .u8 W'.heap.size W' AP PS by
          have := (((hR.step hb).step m).dropIf th.toNat (c := cap = th.toNat) (fun h => List.eq_nil_of_length_eq_zero (by rw [hp9]; omega)))
          rw [hAP, hPS] at this
          exact this)
        have NP : Hid (AP = none → cap - th.toNat = 0) := Lib.hid (by rw [← hAP]; intro h; split at h <;> cases h)
        rw [hPS] at hp9
        have HP9 := Lib.hid hp9
        have HPS := Lib.hid hPS
        clear hPS hp9
        go_wp2_with (first
          | (go_at_call 43; refine (withPs_any s d hs hd' _ len cap bs HL.out (by omega) W RW.out (fun h => by cases h)).mono ?_; rintro e w8 ⟨A8, c8, rfl, r8, m8⟩)
          | (go_at_call 60; refine (right_any A8 _ c8 (psOf s d len ++ bs) hPL.out (by omega) w8 r8).mono ?_; rintro e w9 ⟨he, m9⟩; rw [eR'] at he; subst he; have m89 := m8.trans (m9.mono m8.size); have D9 := (m89.block _ (by omega)).trans hD; obtain ⟨z0, z1, z2, z3, z4⟩ := tcp_cells _ _ _ _ _ _ _ D9)
          | (go_at_call 24; refine (clone_any AP (len - th.toNat) (cap - th.toNat) PS HP9.out w9 (RP.out _ m89) NP.out (by omega)).mono ?_; rintro e w10 ⟨A10, c10, rfl, O10, m10⟩; have D10 := (m10.block _ (by have := m89.size; omega)).trans D9; obtain ⟨y0, y1, y2, y3, y4⟩ := tcp_cells _ _ _ _ _ _ _ D10; have g0 := tcp_frozen D10 0; have g1 := tcp_frozen D10 1; have g2 := tcp_frozen D10 2; have g3 := tcp_frozen D10 3; have g4 := tcp_frozen D10 4))
        have D11 := heap_setCell_same w10 w.heap.size 4 _ _ (.slice A10 PS.length c10) D10
        have C12 : ((((((w10.setCell ⟨w.heap.size, 4, none⟩ (.slice A10 PS.length c10)).setCell ⟨w.heap.size, 0, none⟩ (.int .u16 (wordAt bs 0))).setCell ⟨w.heap.size, 1, none⟩ (.int .u16 (wordAt bs 1))).setCell ⟨w.heap.size, 2, none⟩ (.int .u8 (bs[13]?.getD 0))).setCell ⟨w.heap.size, 3, none⟩ (.int .i64 th)).setCell ⟨w.heap.size, 4, none⟩ (.slice A10 PS.length c10)).heap[w.heap.size]? = some (.cells ([.int .u16 (wordAt bs 0), .int .u16 (wordAt bs 1), .int .u8 (bs[13]?.getD 0), .int .i64 th, .slice A10 PS.length c10]).toArray 46 (0, 0)) := full_setCells D11 [.int .u16 (wordAt bs 0), .int .u16 (wordAt bs 1), .int .u8 (bs[13]?.getD 0), .int .i64 th, .slice A10 PS.length c10] rfl
        have L10 := (hb.trans (m89.mono hb.size)).trans (m10.mono (Nat.le_trans hb.size m89.size))
        have L12 : Below w.heap.size w ((((((w10.setCell ⟨w.heap.size, 4, none⟩ (.slice A10 PS.length c10)).setCell ⟨w.heap.size, 0, none⟩ (.int .u16 (wordAt bs 0))).setCell ⟨w.heap.size, 1, none⟩ (.int .u16 (wordAt bs 1))).setCell ⟨w.heap.size, 2, none⟩ (.int .u8 (bs[13]?.getD 0))).setCell ⟨w.heap.size, 3, none⟩ (.int .i64 th)).setCell ⟨w.heap.size, 4, none⟩ (.slice A10 PS.length c10)) := below_setCells w.heap.size (Nat.le_refl _) [.int .u16 (wordAt bs 0), .int .u16 (wordAt bs 1), .int .u8 (bs[13]?.getD 0), .int .i64 th, .slice A10 PS.length c10] 0 w _ (L10.setCell (p := ⟨w.heap.size, 4, none⟩) (Nat.le_refl _) _)
        have O12 : ((((((w10.setCell ⟨w.heap.size, 4, none⟩ (.slice A10 PS.length c10)).setCell ⟨w.heap.size, 0, none⟩ (.int .u16 (wordAt bs 0))).setCell ⟨w.heap.size, 1, none⟩ (.int .u16 (wordAt bs 1))).setCell ⟨w.heap.size, 2, none⟩ (.int .u8 (bs[13]?.getD 0))).setCell ⟨w.heap.size, 3, none⟩ (.int .i64 th)).setCell ⟨w.heap.size, 4, none⟩ (.slice A10 PS.length c10)).ownsRow _ _ 1 _ _ _ := own_apartN (by decide) [.int .u16 (wordAt bs 0), .int .u16 (wordAt bs 1), .int .u8 (bs[13]?.getD 0), .int .i64 th, .slice A10 PS.length c10] 0 _ _ (own_apart O10 D10 (by decide) 4 (.slice A10 PS.length c10)) D11
        have K12 : ((((((w10.setCell ⟨w.heap.size, 4, none⟩ (.slice A10 PS.length c10)).setCell ⟨w.heap.size, 0, none⟩ (.int .u16 (wordAt bs 0))).setCell ⟨w.heap.size, 1, none⟩ (.int .u16 (wordAt bs 1))).setCell ⟨w.heap.size, 2, none⟩ (.int .u8 (bs[13]?.getD 0))).setCell ⟨w.heap.size, 3, none⟩ (.int .i64 th)).setCell ⟨w.heap.size, 4, none⟩ (.slice A10 PS.length c10)).heap[D]? = some (.deferred (some [])) := (others_setCells w.heap.size [.int .u16 (wordAt bs 0), .int .u16 (wordAt bs 1), .int .u8 (bs[13]?.getD 0), .int .i64 th, .slice A10 PS.length c10] 0 _).same D _ ((KeepsOthers.setCell w10 ⟨w.heap.size, 4, none⟩ (.slice A10 PS.length c10)).same D _ ((m10.block D (by have := m89.size; have := (Array.getElem?_eq_some_iff.1 hK).1; omega)).trans ((m89.block D (Array.getElem?_eq_some_iff.1 hK).1).trans hK)) rfl) rfl
        clear y0 y1 y2 y3 y4 g0 g1 g2 g3 g4 z0 z1 z2 z3 z4 D10 D11 D9 O10
        generalize ((((((w10.setCell ⟨w.heap.size, 4, none⟩ (.slice A10 PS.length c10)).setCell ⟨w.heap.size, 0, none⟩ (.int .u16 (wordAt bs 0))).setCell ⟨w.heap.size, 1, none⟩ (.int .u16 (wordAt bs 1))).setCell ⟨w.heap.size, 2, none⟩ (.int .u8 (bs[13]?.getD 0))).setCell ⟨w.heap.size, 3, none⟩ (.int .i64 th)).setCell ⟨w.heap.size, 4, none⟩ (.slice A10 PS.length c10)) = W12 at *
        simp only [Exit.jump]
        refine ⟨by simp, .inl ⟨_, _, rfl, run_takeDeferred K12, ?_⟩⟩
        refine ⟨_, results_tcp rfl _ _ w.heap.size _ (0, 0) rfl ((World.putObj_heap_other (by omega)).trans C12) rfl, ?_⟩
        have hr : ∀ r, some D = some r → ∃ o : Obj, W12.heap[r]? = some o ∧ o.isCells = false := fun r e => by cases e; exact ⟨_, K12, rfl⟩
        have hE : bs.drop (thl bs).toNat = PS := by rw [TH.out]; exact HPS.out
        have m89s := m89.size
        have hbs := hb.size
        unfold TParseRet
        rw [hE, TH.out]
        refine .inr ⟨hy.out, A10, c10, rfl, own_base (own_abides O12 (grownBy_putObj' _ D (.deferred none)) hr) (by omega), ?_⟩
        exact L12.trans (belowK_b (w := w) (Nat.le_refl _) _ D _ _ (by omega) K12 rfl rfl)

theorem tcpParse_any (s d : Int) (hs : 0 ≤ s ∧ s ≤ 4294967295) (hd' : 0 ≤ d ∧ d ≤ 4294967295) (a : Option Addr) (len cap : Nat) (bs : List Int) (hlen : bs.length = len) (hlc : len ≤ cap) (hc : cap ≤ 9223372036854775807) (w : World) (hR : Row .u8 w.heap.size w a bs) :
    Calls Tryd.prog 38 #[.int .u32 s, .int .u32 d, .slice a len cap] w (TParseRet s d bs w) := by
  by_cases h : len < 20 ∨ 65535 < len
  · refine (tcpParse_short s d a len cap h w).mono ?_
    rintro e w' ⟨rfl, m⟩
    have hy : twhy s d bs = 8 := by
      unfold twhy
      rw [if_pos (by omega)]
    exact .inl ⟨by omega, by rw [hy], m⟩
  · exact callsIn_wide.1 (tcpParse_in s d hs hd' 4 (by omega) a len cap bs hlen (by omega) (by omega) hlc hc w hR)
end Go.Proofs.YtnncmcfonkhckaaDoor

/- Plain facts on segments: what is put is parsed; a bit turned is told; the pseudo-head of other addresses. -/
namespace Go.Proofs.YtnncmcfonkhckaaDoor
open SumM

/-- A head's twenty bytes written out, and what stands behind them. -/
def tC (sp dp tf hd c1 c2 : Int) (r : List Int) : List Int :=
  sp / 256 :: sp % 256 :: dp / 256 :: dp % 256 :: 0 :: 0 :: 0 :: 0 :: 0 :: 0 :: 0 :: 0 :: hd / 4 * 16 :: tf :: 0 :: 0 :: c1 :: c2 :: 0 :: 0 :: r
theorem thead_tC {sp dp tf hd : Int} (H : TNums sp dp tf) (hh : 20 ≤ hd ∧ hd ≤ 60) : thead sp dp tf hd = tC sp dp tf hd 0 0 (List.replicate (hd.toNat - 20) 0) := by
  obtain ⟨h1, h2, h3⟩ := H
  have e1 : (hd / 4 * 4096 + tf) / 256 = hd / 4 * 16 := by omega
  have e2 : (hd / 4 * 4096 + tf) % 256 = tf := by omega
  obtain ⟨m, hm⟩ : ∃ m, hd.toNat = m + 20 := ⟨hd.toNat - 20, by omega⟩
  simp [thead, tfill, tnums, e1, e2, hm, tC, List.replicate_succ]
theorem tput_tC {s d sp dp tf hd : Int} {ps : List Int} (H : TNums sp dp tf) (hh : 20 ≤ hd ∧ hd ≤ 60) (K : Int) (hK : 65535 - tsum s d (thead sp dp tf hd ++ ps) = K) :
    tput s d sp dp tf hd ps = tC sp dp tf hd (K / 256) (K % 256) (List.replicate (hd.toNat - 20) 0 ++ ps) := by
  unfold tput
  rw [hK, thead_tC H hh]
  simp [tC]
theorem tput_length {s d sp dp tf hd : Int} {ps : List Int} : (tput s d sp dp tf hd ps).length = hd.toNat + ps.length := by
  unfold tput
  simp [thead_length]
theorem tput_in {s d sp dp tf hd : Int} {ps : List Int} (H : TNums sp dp tf) (hh : 20 ≤ hd ∧ hd ≤ 60) (hp : In 255 ps) : In 255 (tput s d sp dp tf hd ps) := by
  have hc := cr_in (tot (words (psOf s d (thead sp dp tf hd ++ ps).length ++ (thead sp dp tf hd ++ ps))))
  have ht : tsum s d (thead sp dp tf hd ++ ps) = cr (tot (words (psOf s d (thead sp dp tf hd ++ ps).length ++ (thead sp dp tf hd ++ ps)))) := rfl
  have hi : In 255 (thead sp dp tf hd ++ ps) := by
    intro x hx
    rcases List.mem_append.1 hx with h | h
    · exact thead_in H hh x h
    · exact hp x h
  unfold tput
  exact in_set (in_set hi _ _ (by omega)) _ _ (by omega)
theorem tput_right {s d sp dp tf hd : Int} {ps : List Int} (hs : 0 ≤ s ∧ s ≤ 4294967295) (hd' : 0 ≤ d ∧ d ≤ 4294967295) (H : TNums sp dp tf) (hh : 20 ≤ hd ∧ hd ≤ 60) (hp : In 255 ps) : tsum s d (tput s d sp dp tf hd ps) = 65535 := by
  obtain ⟨K, hK⟩ : ∃ K, 65535 - tsum s d (thead sp dp tf hd ++ ps) = K := ⟨_, rfl⟩
  have hi : In 255 (thead sp dp tf hd ++ ps) := by
    intro x hx
    rcases List.mem_append.1 hx with h | h
    · exact thead_in H hh x h
    · exact hp x h
  have hl : In 255 (psOf s d (thead sp dp tf hd ++ ps).length ++ (thead sp dp tf hd ++ ps)) := by
    intro x hx
    rcases List.mem_append.1 hx with h | h
    · exact psOf_in hs hd' _ x h
    · exact hi x h
  have e0 : (((psOf s d (thead sp dp tf hd ++ ps).length ++ (thead sp dp tf hd ++ ps)).set (2 * 14) 0).set (2 * 14 + 1) 0) = psOf s d (thead sp dp tf hd ++ ps).length ++ (thead sp dp tf hd ++ ps) := by
    rw [thead_tC H hh]
    simp [psOf, tC]
  have hr := right_set _ hl 14 (by rw [List.length_append, psOf_length, List.length_append, thead_length]; omega) K (by rw [e0]; exact hK)
  rw [e0] at hr
  unfold tsum
  rw [tput_length]
  have e1 : ((thead sp dp tf hd ++ ps).length : Int) = ((hd.toNat + ps.length : Nat) : Int) := by rw [List.length_append, thead_length]
  rw [e1] at hr
  have e2 : psOf s d ((hd.toNat + ps.length : Nat) : Int) ++ tput s d sp dp tf hd ps = ((psOf s d ((hd.toNat + ps.length : Nat) : Int) ++ (thead sp dp tf hd ++ ps)).set (2 * 14) (K / 256)).set (2 * 14 + 1) (K % 256) := by
    unfold tput
    rw [hK]
    simp [psOf]
  rw [e2]
  exact hr
theorem tput_thl {s d sp dp tf hd : Int} {ps : List Int} (H : TNums sp dp tf) (hh : 20 ≤ hd ∧ hd ≤ 60) (h4 : hd % 4 = 0) : thl (tput s d sp dp tf hd ps) = hd := by
  rw [tput_tC H hh _ rfl]
  unfold thl tC
  simp
  omega
theorem twhy_put {s d sp dp tf hd : Int} {ps : List Int} (hs : 0 ≤ s ∧ s ≤ 4294967295) (hd' : 0 ≤ d ∧ d ≤ 4294967295) (H : TNums sp dp tf) (hm : mayB hd ps.length = true) (hp : In 255 ps) : twhy s d (tput s d sp dp tf hd ps) = 0 := by
  obtain ⟨m1, m2, m3, m4⟩ := mayB_le hm
  have h1 := tput_right (sp := sp) (dp := dp) (tf := tf) (hd := hd) hs hd' H ⟨m1, m2⟩ hp
  unfold twhy
  rw [tput_thl H ⟨m1, m2⟩ m3, tput_length, if_neg (by omega), if_neg (by omega), if_neg (by omega)]
theorem tput_seg {s d sp dp tf hd : Int} {ps : List Int} (H : TNums sp dp tf) (hm : mayB hd ps.length = true) :
    wordAt (tput s d sp dp tf hd ps) 0 = sp ∧ wordAt (tput s d sp dp tf hd ps) 1 = dp ∧ (tput s d sp dp tf hd ps)[13]?.getD 0 = tf ∧ thl (tput s d sp dp tf hd ps) = hd ∧ (tput s d sp dp tf hd ps).drop hd.toNat = ps := by
  obtain ⟨m1, m2, m3, m4⟩ := mayB_le hm
  refine ⟨?_, ?_, ?_, tput_thl H ⟨m1, m2⟩ m3, ?_⟩
  · rw [tput_tC H ⟨m1, m2⟩ _ rfl]
    simp [wordAt, tC]
    omega
  · rw [tput_tC H ⟨m1, m2⟩ _ rfl]
    simp [wordAt, tC]
    omega
  · rw [tput_tC H ⟨m1, m2⟩ _ rfl]
    simp [tC]
  · rw [tput_tC H ⟨m1, m2⟩ _ rfl]
    obtain ⟨m, hm⟩ : ∃ m, hd.toNat = m + 20 := ⟨hd.toNat - 20, by omega⟩
    rw [hm]
    simp [tC]
theorem twhy_short (s d : Int) {bs : List Int} (h : bs.length < 20 ∨ thl bs < 20 ∨ (bs.length : Int) < thl bs) : twhy s d bs = 8 := by
  unfold twhy
  by_cases c : bs.length < 20
  · rw [if_pos (.inl c)]
  · by_cases c2 : 65535 < bs.length
    · rw [if_pos (.inr c2)]
    · rw [if_neg (by omega), if_pos (by omega)]
theorem twhy_long (s d : Int) {bs : List Int} (h : ¬ (bs.length < 20 ∨ thl bs < 20 ∨ (bs.length : Int) < thl bs)) (h2 : bs.length ≤ 65535) : twhy s d bs = if tsum s d bs ≠ 65535 then 9 else 0 := by
  unfold twhy
  rw [if_neg (by omega), if_neg (by omega)]
theorem twhy_in (s d : Int) (bs : List Int) : twhy s d bs = 0 ∨ twhy s d bs = 8 ∨ twhy s d bs = 9 := by
  unfold twhy
  split
  · simp
  split
  · simp
  split <;> simp
/-- A bit turned in a right segment. -/
theorem twhy_bit {s d : Int} {bs : List Int} (hr : tsum s d bs = 65535) (p : Nat) (hp : p < bs.length) (v : Int) (k : Nat) (hk : k < 8) (hv : v = bs[p]?.getD 0 + (2 ^ k : Nat) ∨ v + (2 ^ k : Nat) = bs[p]?.getD 0) : twhy s d (bs.set p v) ≠ 0 := by
  have h := wrong_set (psOf s d bs.length ++ bs) hr (12 + p) (by rw [List.length_append, psOf_length]; omega) v k hk (by
    rw [List.getElem?_append_right (by rw [psOf_length]; omega), psOf_length, Nat.add_sub_cancel_left]
    exact hv)
  have e : (psOf s d bs.length ++ bs).set (12 + p) v = psOf s d bs.length ++ bs.set p v := by
    rw [List.set_append, if_neg (by rw [psOf_length]; omega), psOf_length, Nat.add_sub_cancel_left]
  rw [e] at h
  have h2 : tsum s d (bs.set p v) ≠ 65535 := by
    unfold tsum
    rw [List.length_set]
    exact h
  intro h0
  unfold twhy at h0
  rw [if_pos h2] at h0
  split at h0
  · cases h0
  · split at h0 <;> cases h0
/-- The words of an even number of bytes, and of what stands behind them. -/
theorem words_append (xs bs : List Int) (h : xs.length % 2 = 0) : words (xs ++ bs) = words xs ++ words bs := by
  apply List.ext_getElem
  · simp only [words_length, List.length_append]
    omega
  · intro k h1 h2
    rw [words_length, List.length_append] at h1
    have e1 := words_get (xs ++ bs) k (by rw [List.length_append]; exact h1)
    have h1' : k < (words (xs ++ bs)).length := by rw [words_length, List.length_append]; exact h1
    rw [List.getElem?_eq_getElem h1', Option.getD_some] at e1
    rw [e1]
    by_cases hk : k < (words xs).length
    · rw [List.getElem_append_left hk]
      have e2 := words_get xs k (by rw [words_length] at hk; exact hk)
      rw [List.getElem?_eq_getElem hk, Option.getD_some] at e2
      rw [e2]
      rw [words_length] at hk
      unfold wordAt
      rw [List.getElem?_append_left (by omega), List.getElem?_append_left (by omega)]
    · rw [List.getElem_append_right (by omega)]
      have hk2 : k - (words xs).length < (words bs).length := by
        rw [words_length, words_length]
        rw [words_length] at hk
        omega
      have e2 := words_get bs (k - (words xs).length) (by rw [words_length bs] at hk2; exact hk2)
      rw [List.getElem?_eq_getElem hk2, Option.getD_some] at e2
      rw [e2]
      rw [words_length] at hk ⊢
      unfold wordAt
      rw [List.getElem?_append_right (by omega), List.getElem?_append_right (by omega)]
      have e3 : 2 * k - xs.length = 2 * (k - (xs.length + 1) / 2) := by omega
      have e4 : 2 * k + 1 - xs.length = 2 * (k - (xs.length + 1) / 2) + 1 := by omega
      rw [e3, e4]
theorem tsum_eq (s d : Int) (bs : List Int) : tsum s d bs = cr (tot (words (psOf s d bs.length)) + tot (words bs)) := by
  unfold tsum sumOf
  rw [words_append _ _ (by rw [psOf_length]), tot_append]
/-- The pseudo-head's words, added. -/
theorem ps_tot (s d n : Int) : tot (words (psOf s d n)) = 256 * (s / 16777216) + s / 65536 % 256 + (256 * (s / 256 % 256) + s % 256) + (256 * (d / 16777216) + d / 65536 % 256) + (256 * (d / 256 % 256) + d % 256) + 6 + (256 * (n / 256 % 256) + n % 256) := by
  simp [words, upto, psOf, List.range_succ, wordAt, tot]
  omega
theorem tsum_swap (s d : Int) (bs : List Int) : tsum d s bs = tsum s d bs := by
  rw [tsum_eq, tsum_eq, ps_tot, ps_tot]
  congr 1
  omega
theorem twhy_swap (s d : Int) (bs : List Int) : twhy d s bs = twhy s d bs := by unfold twhy; rw [tsum_swap]
/-- With other addresses it is right just if the pseudo-head's sum is as it was. -/
theorem twhy_other {s d x y : Int} (hs : 0 ≤ s ∧ s ≤ 4294967295) (hd : 0 ≤ d ∧ d ≤ 4294967295) (hx : 0 ≤ x ∧ x ≤ 4294967295) (hy : 0 ≤ y ∧ y ≤ 4294967295) {bs : List Int} (hin : In 255 bs) (h0 : twhy s d bs = 0) :
    twhy x y bs = 9 ↔ sumOf (psOf s d bs.length) ≠ sumOf (psOf x y bs.length) := by
  have hb := tot_in (words bs) (words_in hin)
  have a1 := ps_tot s d bs.length
  have a2 := ps_tot x y bs.length
  have h1 : tsum s d bs = 65535 := by
    unfold twhy at h0
    split at h0
    · cases h0
    split at h0
    · cases h0
    split at h0
    · cases h0
    · rename_i h
      simpa using h
  have h2 : twhy x y bs = 9 ↔ tsum x y bs ≠ 65535 := by
    unfold twhy at h0 ⊢
    split at h0
    · cases h0
    rename_i c1
    split at h0
    · cases h0
    rename_i c2
    rw [if_neg c1, if_neg c2]
    split <;> simp_all
  rw [h2]
  rw [tsum_eq] at h1 ⊢
  unfold sumOf
  generalize tot (words (psOf s d bs.length)) = A at *
  generalize tot (words (psOf x y bs.length)) = A' at *
  generalize tot (words bs) = B at *
  have p1 : 0 < A := by omega
  have p2 : 0 < A' := by omega
  clear a1 a2 h2 h0
  unfold cr at *
  rw [if_neg (by omega)] at h1
  rw [if_neg (by omega), if_neg (by omega), if_neg (by omega)]
  omega
end Go.Proofs.YtnncmcfonkhckaaDoor
