/- What 'handfast/tcp.Put' answers. -/
import Derived.Test.YtclofmgnnohhpaaTcpN
namespace Go.Proofs.Ytclofmgnnohhpaa
open Go.RowKit Go.Shelf
open SumM

attribute [local go_sem] Oper.semAt_some

/-- A segment's head, all noughts but its numbers; the sum of a segment; what is put. -/
def thead (sp dp tf hd : Int) : List Int := tfill hd.toNat (tnums sp dp tf hd)
def tsum (s d : Int) (bs : List Int) : Int := sumOf (psOf s d bs.length ++ bs)
def tput (s d sp dp tf hd : Int) (ps : List Int) : List Int :=
  ((thead sp dp tf hd ++ ps).set 16 ((65535 - tsum s d (thead sp dp tf hd ++ ps)) / 256)).set 17 ((65535 - tsum s d (thead sp dp tf hd ++ ps)) % 256)
theorem thead_length (sp dp tf hd : Int) : (thead sp dp tf hd).length = hd.toNat := tfill_length _ _
theorem tfill_in (n : Nat) (l : List (Nat × Int)) (h : ∀ x ∈ l, 0 ≤ x.2 ∧ x.2 ≤ 65535) : In 255 (tfill n l) := by
  have : ∀ (l : List (Nat × Int)) (acc : List Int), (∀ x ∈ l, 0 ≤ x.2 ∧ x.2 ≤ 65535) → In 255 acc → In 255 (l.foldl (fun acc x => (acc.set x.1 (x.2 / 256)).set (x.1 + 1) (x.2 % 256)) acc) := by
    intro l
    induction l with
    | nil => intro acc _ h; exact h
    | cons x r ih =>
      intro acc hx ha
      rw [List.foldl_cons]
      have := hx x (by simp)
      exact ih _ (fun y hy => hx y (by simp [hy])) (in_set (in_set ha _ _ (by omega)) _ _ (by omega))
  refine this l _ h ?_
  intro x hx
  have := List.eq_of_mem_replicate hx
  omega
theorem thead_in {sp dp tf hd : Int} (H : TNums sp dp tf) (hh : 20 ≤ hd ∧ hd ≤ 60) : In 255 (thead sp dp tf hd) := by
  obtain ⟨h1, h2, h3⟩ := H
  refine tfill_in _ _ fun x hx => ?_
  simp [tnums] at hx
  rcases hx with rfl | rfl | rfl <;> simp only <;> omega

set_option maxRecDepth 100000 in
set_option maxHeartbeats 8000000 in
theorem tcpPut_in (s d : Int) (sp dp tf hd : Int) (da : Option Addr) (dn dc : Nat) (n : Nat) (hn : 4 ≤ n) (ps : List Int) (hs : 0 ≤ s ∧ s ≤ 4294967295) (hd' : 0 ≤ d ∧ d ≤ 4294967295) (H : TNums sp dp tf) (hm : mayB hd dn = true) (w : World)
    (hrp : Row .u8 w.heap.size w da ps) (hpl : ps.length = dn) (hpn : da = none → dc = 0) :
    CallsIn Fence.wide n Try.prog 10 #[.int .u32 s, .int .u32 d, .agg #[.int .u16 sp, .int .u16 dp, .int .u8 tf, .int .i64 hd, .slice da dn dc]] w fun e w' => ∃ A c, e = .returned (.tuple #[.slice A (hd.toNat + dn) c, .bool true]) ∧ w'.ownsRow w.heap.size 5 1 (.slice A (hd.toNat + dn) c) (hd.toNat + dn) ((tput s d sp dp tf hd ps).map (Value.int .u8)) ∧ Below w.heap.size w w' := by
  have h1n : 1 ≤ n := by omega
  obtain ⟨i0, hi, hz0, hz1, hz2⟩ := info_parts Try.infoU8
  obtain ⟨m1, m2, m3, m4⟩ := mayB_le hm
  obtain ⟨hN, rfl⟩ : ∃ k : Nat, hd = (k : Int) := ⟨hd.toNat, by omega⟩
  rw [Int.toNat_natCast]
  have HM := Lib.hid hm
  have HH := Lib.hid H
  have HL := Lib.hid hpl
  have HP := Lib.hid hrp
  have HZ := Lib.hid hpn
  clear hm hpl hrp hpn
  refine callsIn_of_wp_marks Try.func10 rfl trivial ?_ rfl
  simp only [Try.ntmps10, List.size_toArray, List.length_cons, List.length_nil, Nat.reduceAdd, Nat.reduceSub, Array.replicate_succ, Array.replicate_zero, List.push_toArray, List.append_toArray, List.nil_append, List.cons_append]
  gi_wp2
  rw [wpIn_wide]
  refine wp_scope_jumps 0 (fun _ _ => False) (fun _ _ => 0) rfl ?first (fun _ _ h => h.elim)
  rw [← wpIn_wide (n := n)]
  have bH := heap_alloc_new w (.cells #[.int .u16 sp, .int .u16 dp, .int .u8 tf, .int .i64 (hN : Int), .slice da dn dc] 26)
  have bB := heap_alloc_new (w.alloc (.cells #[.int .u16 sp, .int .u16 dp, .int .u8 tf, .int .i64 (hN : Int), .slice da dn dc] 26)) (.cells #[.slice none 0 0] 23)
  rw [World.size_alloc] at bB
  have bH2 := (Below.heap_alloc _ (.cells #[.slice none 0 0] 23) w.heap.size (by simp)).trans bH
  have L0 : Below w.heap.size w ((w.alloc (.cells #[.int .u16 sp, .int .u16 dp, .int .u8 tf, .int .i64 (hN : Int), .slice da dn dc] 26)).alloc (.cells #[.slice none 0 0] 23)) := ((Below.refl _ w).alloc (Nat.le_refl _) _).alloc (by simp) _
  have hs0 : ((w.alloc (.cells #[.int .u16 sp, .int .u16 dp, .int .u8 tf, .int .i64 (hN : Int), .slice da dn dc] 26)).alloc (.cells #[.slice none 0 0] 23)).heap.size = w.heap.size + 2 := by simp
  gi_wp2_with fail
  generalize (w.alloc (.cells #[.int .u16 sp, .int .u16 dp, .int .u8 tf, .int .i64 (hN : Int), .slice da dn dc] 26)).alloc (.cells #[.slice none 0 0] 23) = W0 at *
  refine ⟨trivial, (callsIn_wide.2 (mayBe_any sp dp tf hN da dn dc W0 (by omega) (by omega))).mono ?_⟩
  rintro e w1 ⟨rfl, k1⟩
  rw [HM.out]
  have c1 := (k1.block _ (by omega)).trans bH2
  have d1 : Boxed w1 (w.heap.size + 1) 23 (.slice none 0 0) := (k1.block _ (by omega)).trans bB
  have L1 := L0.trans (k1.mono L0.size)
  have s1 := k1.size
  clear bH bB bH2 L0 k1
  obtain ⟨q0, q1, q2, q3, q4⟩ := tcp_cells _ _ _ _ _ _ _ c1
  have hcB1 := d1.cell
  have hfB1 := d1.frozen
  have hw1 : IntKind.i64.wrap ((hN : Int) + dn) = (hN : Int) + dn := IntWalk.i64_in _ (by omega)
  gi_wp2_with (gi_at_make; refine wpListIn_make_lc _ rfl _ _ _ rfl w1.heap.size 5 i0 (.int .u8 0) Try.underlying23 hi hz0 hz1 rfl .i64 .i64 hN ((hN : Int) + dn) hN (hN + dn) rfl rfl (by omega) (by omega) (by omega) (by rw [hz2]; omega) (by unfold maxLen; omega) (Nat.le_refl _) ?_; intro w3 hown3 hgrow3; have c3 := (hgrow3.block _ (by omega) (by simp)).trans c1; have d3 := d1.kept hgrow3 (by simp); have s3 := hgrow3.size; have L3 := L1.grown hgrow3 (by omega) (fun k e => by cases e); have hcB3 := d3.cell; have hfB3 := d3.frozen; obtain ⟨q0, q1, q2, q3, q4⟩ := tcp_cells _ _ _ _ _ _ _ c3)
  refine ⟨trivial, (tnumbersOf_in (n - 1) sp dp tf hN da dn dc _).mono ?_⟩
  rintro e w5 ⟨rfl, rfl⟩
  have hlb : w.heap.size + 1 < w1.heap.size := by omega
  have O4 := own_setBelow hown3 ⟨w.heap.size + 1, 0, none⟩ hlb (.slice (some ⟨w1.heap.size, 0, none⟩) hN (hN + dn))
  have c4 := (Below.heap_setCell w3 ⟨w.heap.size + 1, 0, none⟩ (.slice (some ⟨w1.heap.size, 0, none⟩) hN (hN + dn)) w.heap.size (by simp)).trans c3
  have B4 := d3.set (.slice (some ⟨w1.heap.size, 0, none⟩) hN (hN + dn))
  have L4 := L3.setCell (p := ⟨w.heap.size + 1, 0, none⟩) (by simp) (.slice (some ⟨w1.heap.size, 0, none⟩) hN (hN + dn))
  have s4 : w1.heap.size ≤ (w3.setCell ⟨w.heap.size + 1, 0, none⟩ (.slice (some ⟨w1.heap.size, 0, none⟩) hN (hN + dn))).heap.size := by simpa using s3
  have e4 : w3.heap.size = (w3.setCell ⟨w.heap.size + 1, 0, none⟩ (.slice (some ⟨w1.heap.size, 0, none⟩) hN (hN + dn))).heap.size := by simp
  clear q0 q1 q2 q3 q4 hcB1 hfB1 hcB3 hfB3 hown3 hgrow3 c3 d3 L3 c1 d1 L1
  generalize w3.setCell ⟨w.heap.size + 1, 0, none⟩ (.slice (some ⟨w1.heap.size, 0, none⟩) hN (hN + dn)) = W4 at *
  have O4' : W4.ownsRow w1.heap.size 5 1 (.slice (some ⟨w1.heap.size, 0, none⟩) hN (hN + dn)) hN ((tfill hN []).map (Value.int .u8)) := by
    have : (tfill hN []).map (Value.int .u8) = List.replicate hN (Value.int .u8 0) := by simp [tfill]
    rw [this]
    exact O4
  clear O4
  generalize hHD : (.agg #[.int .u16 sp, .int .u16 dp, .int .u8 tf, .int .i64 (hN : Int), .slice da dn dc] : Value) = HD
  have bC := heap_alloc_new W4 (.cells #[.int .u16 sp, .int .u16 dp, .int .u8 tf, .int .i64 (hN : Int), .slice da dn dc] 26)
  have bH5 := (Below.heap_alloc W4 (.cells #[.int .u16 sp, .int .u16 dp, .int .u8 tf, .int .i64 (hN : Int), .slice da dn dc] 26) w.heap.size (by omega)).trans c4
  have B5 := B4.alloc (.cells #[.int .u16 sp, .int .u16 dp, .int .u8 tf, .int .i64 (hN : Int), .slice da dn dc] 26)
  have O5 := O4'.alloc (.cells #[.int .u16 sp, .int .u16 dp, .int .u8 tf, .int .i64 (hN : Int), .slice da dn dc] 26)
  have L5 := L4.alloc (by omega) (.cells #[.int .u16 sp, .int .u16 dp, .int .u8 tf, .int .i64 (hN : Int), .slice da dn dc] 26)
  have hz5 : (W4.alloc (.cells #[.int .u16 sp, .int .u16 dp, .int .u8 tf, .int .i64 (hN : Int), .slice da dn dc] 26)).heap.size = W4.heap.size + 1 := by simp
  clear B4 O4' L4 c4
  gi_wp2
  generalize hW5 : W4.alloc (.cells #[.int .u16 sp, .int .u16 dp, .int .u8 tf, .int .i64 (hN : Int), .slice da dn dc] 26) = V at *
  refine wpIn_rangeFunc_ownG rfl h1n (gf := 35) (lb := #[.pointer (some ⟨W4.heap.size, 0, none⟩)]) rfl trivial (enters_of Try.func35 (by kernel_rfl) rfl)
    (tnums_stops sp dp tf hN da dn dc (n - 1) (by omega) W4.heap.size w.heap.size HH.out ⟨by omega, by omega⟩ V (by omega) bC) keepT_t (keepT_b (by omega)) (Below.refl _ _) (fun _ => rfl)
    (fun pre W => Boxed W (w.heap.size + 1) 23 (.slice (some ⟨w1.heap.size, 0, none⟩) hN (hN + dn)) ∧ W.ownsRow w1.heap.size 5 1 (.slice (some ⟨w1.heap.size, 0, none⟩) hN (hN + dn)) hN ((tfill hN (pre.map (·.1))).map (Value.int .u8)) ∧ Below w.heap.size w W ∧ W.heap[w.heap.size]? = some (.cells #[.int .u16 sp, .int .u16 dp, .int .u8 tf, .int .i64 (hN : Int), .slice da dn dc] 26 (0, 0)) ∧ V.heap.size ≤ W.heap.size)
    (fun _ _ _ => False)
    ?own
    (fun _ _ _ _ _ hs _ _ => hs)
    ⟨B5, O5, L5, bH5, Nat.le_refl _⟩
    (fun x => { tmps := #[.int .u32 s, .int .u32 d, HD, undef, undef, .pointer (some ⟨w.heap.size, 0, none⟩), .slice none 0 0, .bool false, .pointer (some ⟨w.heap.size + 1, 0, none⟩), .int .i64 x.1.1, .int .u16 x.1.2, HD, .bool true, .bool false, .pointer (some ⟨w.heap.size, 3, none⟩), .int .i64 hN, .pointer (some ⟨w.heap.size, 3, none⟩), .int .i64 hN, .pointer (some ⟨w.heap.size, 4, none⟩), .slice da dn dc, .int .i64 dn, .int .i64 ((hN : Int) + dn), .slice (some ⟨w1.heap.size, 0, none⟩) hN (hN + dn), HD, .func (.func 35) #[] #[.pointer (some ⟨W4.heap.size, 0, none⟩)], .int .i64 x.1.1, .int .u16 x.1.2, undef, undef, undef, undef, undef, undef, undef, undef, undef, undef, undef, undef, undef, undef, undef, undef], defers := [] }) ?assign ?body ?done ?stop
  case own =>
    rintro pre W W' row ⟨hX, hO, hb, hh, hv⟩ hgr hr
    have hr2 := fun r e => (hr r e).2
    exact ⟨hX.kept hgr (fun e => by have := (hr _ e.symm).1; omega), own_abides hO hgr hr2, hb.grown hgr hb.size (fun k e => by have := (hr k e).1; omega), (hgr.block _ (by omega) (fun e => by have := (hr _ e.symm).1; omega)).trans hh, Nat.le_trans hv hgr.size⟩
  case assign =>
    intro l x W K hK
    gi_wp2
    exact hK
  case body =>
    rintro l pre x W ⟨hX, hO, hb, hh, hv⟩ hlt
    have hx := x.2
    have hcX := hX.cell
    have HA := Lib.hid (CallsIn.inRound l ((callsIn_wide (n := n - 1 - 1 - 1)).2 (lay_any w1.heap.size hN (hN + dn) w1.heap.size _ W x.1.1 x.1.2 hx.2 (by omega) (by omega) hO)))
    gi_wp2_with fail
    refine ⟨trivial, by omega, HA.out.mono ?_⟩
    rintro e W2 ⟨⟨v, rfl⟩, rfl⟩
    have O6 := own_store (own_store hO x.1.1 (x.1.2 / 256)) (x.1.1 + 1) (x.1.2 % 256)
    rw [← tfill_snoc] at O6
    have K6 := keepT_own_store (ts := [26]) hO (n₀ := w.heap.size) (by omega) (by decide) x.1.1 (.int .u8 (x.1.2 / 256))
    have K7 := keepT_t K6 (keepT_own_store (ts := [26]) (own_store hO x.1.1 (x.1.2 / 256)) (n₀ := w.heap.size) (by omega) (by decide) (x.1.1 + 1) (.int .u8 (x.1.2 % 256)))
    gi_wp2
    refine ⟨((KeepsOthers.setCell _ _ _).trans (KeepsOthers.setCell _ _ _)).from _, K7, ?_, ?_, ?_, ?_, ?_⟩
    · exact box_store (own_store hO x.1.1 (x.1.2 / 256)) (box_store hO hX (by decide) _ _) (by decide) _ _
    · rw [List.map_append]
      exact O6
    · exact (hb.setCell (p := ⟨w1.heap.size, x.1.1, none⟩) (by simp; omega) _).setCell (p := ⟨w1.heap.size, x.1.1 + 1, none⟩) (by simp; omega) _
    · exact box_store (own_store hO x.1.1 (x.1.2 / 256)) (box_store hO hh (by decide) _ _) (by decide) _ _
    · rw [World.size_setCell, World.size_setCell]; exact hv
  case done =>
    rintro D ys W hD hys ⟨hX, hO, hb, hh, hv⟩ hK
    rw [hys] at hO
    have hcX := hX.cell
    have hfX := hX.frozen
    obtain ⟨q0, q1, q2, q3, q4⟩ := tcp_cells _ _ _ _ _ _ _ hh
    simp only [Exit.inBlock, Exit.then]
    apply_assumption
    rw [wpIn_wide]
    have hth : tfill hN (tnums sp dp tf hN) = thead sp dp tf hN := by unfold thead; rw [Int.toNat_natCast]
    rw [hth] at hO
    go_wp2_with (at_builtin; refine wpList_append_row _ rfl _ _ 23 rfl w1.heap.size 5 i0 (.int .u8 0) 1 Try.underlying23 hi hz0 hz1 hz2 rfl _ hN _ rfl hO .u8 w.heap.size da dn dc ps rfl HL.out (HP.out.below hb) HZ.out (by unfold maxLen; omega) (by omega) (by omega) ?_; intro v6 w6 hO6 hg6; rw [← List.map_append] at hO6; obtain ⟨g6, cap6, rfl, hb6⟩ := own_form hO6 (by omega); have X6 := hX.kept hg6 (own_ne hO hlb); have hcX6 := X6.cell; have hfX6 := X6.frozen)
    have O7 := own_setBelow hO6 ⟨w.heap.size + 1, 0, none⟩ hlb (.slice (some ⟨g6, 0, none⟩) (hN + dn) cap6)
    have X7 := X6.set (.slice (some ⟨g6, 0, none⟩) (hN + dn) cap6)
    have L6 := hb.grown hg6 (by omega) (fun k e => by have := (hO.lt k e).1; omega)
    have L7 := L6.setCell (p := ⟨w.heap.size + 1, 0, none⟩) (by simp) (.slice (some ⟨g6, 0, none⟩) (hN + dn) cap6)
    have K7 := ((own_others hO hg6).trans (KeepsOthers.setCell w6 ⟨w.heap.size + 1, 0, none⟩ (.slice (some ⟨g6, 0, none⟩) (hN + dn) cap6))).same D _ hK rfl
    clear q0 q1 q2 q3 q4 hcX hfX hcX6 hfX6 X6 hO6 hg6 L6 hK hh hb hO hX hv
    generalize w6.setCell ⟨w.heap.size + 1, 0, none⟩ (.slice (some ⟨g6, 0, none⟩) (hN + dn) cap6) = W7 at *
    have hin : In 255 (thead sp dp tf hN ++ ps) := by
      intro x hx
      rcases List.mem_append.1 hx with h | h
      · exact thead_in HH.out ⟨by omega, by omega⟩ x h
      · exact row_in HP.out x h
    have R7 : Row .u8 W7.heap.size W7 (some ⟨g6, 0, none⟩) (thead sp dp tf hN ++ ps) := Row.of_own O7 (in_wf8 hin)
    have hbl : (thead sp dp tf hN ++ ps).length = hN + dn := by rw [List.length_append, thead_length, HL.out, Int.toNat_natCast]
    have hck := cr_in (tot (words (psOf s d (hN + dn : Nat) ++ (thead sp dp tf hN ++ ps))))
    have hcX := X7.cell
    have hbX : w.heap.size + 1 < W7.heap.size := X7.lt
    have TP := Lib.hid (show tput s d sp dp tf hN ps = ((thead sp dp tf hN ++ ps).set 16 ((65535 - sumOf (psOf s d (hN + dn : Nat) ++ (thead sp dp tf hN ++ ps))) / 256)).set 17 ((65535 - sumOf (psOf s d (hN + dn : Nat) ++ (thead sp dp tf hN ++ ps))) % 256) by unfold tput tsum; rw [hbl])
    have HBL := Lib.hid hbl
    have RW7 := Lib.hid (show Row .u8 W7.drew.heap.size W7.drew (some ⟨g6, 0, none⟩) (thead sp dp tf hN ++ ps) from R7)
    clear hbl R7 hin
    generalize thead sp dp tf hN ++ ps = bd at *
    have O7' : W7.ownsRow w1.heap.size 5 1 (.slice (some ⟨g6, 0, none⟩) (hN + dn) cap6) (hN + dn) (bd.map (Value.int .u8)) := O7
    clear O7
    have hPL : (psOf s d (hN + dn : Nat) ++ bd).length = 12 + (hN + dn) := by rw [List.length_append, psOf_length, HBL.out]
    have HPL := Lib.hid hPL
    clear hPL
    obtain ⟨ck, hk⟩ : ∃ k, 65535 - sumOf (psOf s d (hN + dn : Nat) ++ bd) = k := ⟨_, rfl⟩
    have hkb : 0 ≤ ck ∧ ck ≤ 65535 := by unfold sumOf at hk; omega
    rw [hk] at TP
    have HK := Lib.hid hk
    clear hk hck
    go_region_held3 (fun w' => w'.cell? ⟨w.heap.size + 1, 0, none⟩ = some (.slice (some ⟨g6, 0, none⟩) (hN + dn) cap6)) (first | with_reducible exact hcX | with_reducible exact hcX8 | with_reducible exact hcX9 | with_reducible exact hcX10 | exact hcX)
      (first
        | (go_at_call 21; refine (withPs_any s d hs hd' _ (hN + dn) cap6 bd HBL.out (by omega) _ RW7.out (fun h => by cases h)).mono ?_; rintro e w8 ⟨A8, c8, rfl, r8, m8'⟩; have m8 : Below W7.heap.size W7 w8 := below_drew m8'; have hcX8 := (m8.cell (p := ⟨w.heap.size + 1, 0, none⟩) hbX).trans hcX; have O8 := own_below O7' m8)
        | (go_at_call 27; refine (check_any A8 _ c8 (psOf s d (hN + dn : Nat) ++ bd) HPL.out (by omega) w8 r8).mono ?_; rintro e w9 ⟨he, m9⟩; rw [HK.out] at he; subst he; have hcX9 := (m9.cell (p := ⟨w.heap.size + 1, 0, none⟩) (Nat.lt_of_lt_of_le hbX m8.size)).trans hcX8; have O9 := own_below O8 m9)
        | (go_at_call 26; refine (lay_any g6 (hN + dn) cap6 w1.heap.size bd w9 16 ck hkb (by omega) (by omega) O9).mono ?_; rintro e w10 ⟨⟨v10, rfl⟩, rfl⟩; have hcX10 : ((w9.setCell ⟨g6, 16, none⟩ (.int .u8 (ck / 256))).setCell ⟨g6, 17, none⟩ (.int .u8 (ck % 256))).cell? ⟨w.heap.size + 1, 0, none⟩ = some (.slice (some ⟨g6, 0, none⟩) (hN + dn) cap6) := (by rw [World.cell?_setCell_other _ _ _ _ (by simp), World.cell?_setCell_other _ _ _ _ (by simp)]; exact hcX9)))
    have O10 := own_store (own_store O9 16 (ck / 256)) 17 (ck % 256)
    have m79 := m8.trans (m9.mono m8.size)
    have L10 := ((L7.trans (m79.mono L7.size)).setCell (p := ⟨g6, 16, none⟩) (by show w.heap.size ≤ g6; omega) (.int .u8 (ck / 256))).setCell (p := ⟨g6, 17, none⟩) (by show w.heap.size ≤ g6; omega) (.int .u8 (ck % 256))
    have K10 := ((KeepsOthers.setCell w9 ⟨g6, 16, none⟩ (.int .u8 (ck / 256))).trans (KeepsOthers.setCell _ ⟨g6, 17, none⟩ (.int .u8 (ck % 256)))).same D _ ((m79.block D (Array.getElem?_eq_some_iff.1 K7).1).trans K7) rfl
    clear O8 O9 m8 m8' m9 hcX hcX8 hcX9 RW7 O7' L7 K7 X7 m79 r8
    generalize (w9.setCell ⟨g6, 16, none⟩ (.int .u8 (ck / 256))).setCell ⟨g6, 17, none⟩ (.int .u8 (ck % 256)) = W10 at *
    go_wp2
    simp only [Exit.jump]
    refine ⟨by simp, .inl ⟨_, _, rfl, run_takeDeferred K10, ?_⟩⟩
    refine ⟨_, results_tmp2 rfl _ _ _, ?_⟩
    rw [TP.out]
    exact ⟨_, _, rfl, own_base (own_abides O10 (grownBy_putObj' W10 D (.deferred none)) (fun r e => by cases e; exact ⟨_, K10, rfl⟩)) (show w.heap.size ≤ w1.heap.size by omega), L10.trans (belowK_b (w := w) (Nat.le_refl _) W10 D _ _ (by omega) K10 rfl rfl)⟩
  case stop =>
    rintro D c pre W _ _ h _
    exact h.elim

/-- Bytes of a known number, in memory of the call's own, and yes. -/
def TPutN (n : Nat) (zs : List Int) (w : World) (e : Ending) (w' : World) : Prop :=
  ∃ A c, e = .returned (.tuple #[.slice A n c, .bool true]) ∧ w'.ownsRow w.heap.size 5 1 (.slice A n c) n (zs.map (Value.int .u8)) ∧ Below w.heap.size w w'
theorem tcpPut_yes (s d : Int) (sp dp tf hd : Int) (da : Option Addr) (dn dc : Nat) (ps : List Int) (hs : 0 ≤ s ∧ s ≤ 4294967295) (hd' : 0 ≤ d ∧ d ≤ 4294967295) (H : TNums sp dp tf) (hm : mayB hd dn = true) (w : World)
    (hrp : Row .u8 w.heap.size w da ps) (hpl : ps.length = dn) (hpn : da = none → dc = 0) :
    Calls Try.prog 10 #[.int .u32 s, .int .u32 d, .agg #[.int .u16 sp, .int .u16 dp, .int .u8 tf, .int .i64 hd, .slice da dn dc]] w (TPutN (hd.toNat + dn) (tput s d sp dp tf hd ps) w) :=
  callsIn_wide.1 (tcpPut_in s d sp dp tf hd da dn dc 4 (by omega) ps hs hd' H hm w hrp hpl hpn)

set_option maxRecDepth 100000 in
set_option maxHeartbeats 2000000 in
theorem tcpPut_no (s d : Int) (sp dp tf hd : Int) (da : Option Addr) (dn dc : Nat) (hh : -9223372036854775808 ≤ hd ∧ hd ≤ 9223372036854775807) (hdn : dn ≤ 281474976710656) (hm : mayB hd dn = false) (w : World) :
    Calls Try.prog 10 #[.int .u32 s, .int .u32 d, .agg #[.int .u16 sp, .int .u16 dp, .int .u8 tf, .int .i64 hd, .slice da dn dc]] w fun e w' => e = .returned (.tuple #[.slice none 0 0, .bool false]) ∧ Below w.heap.size w w' := by
  have HM := Lib.hid hm
  clear hm
  go_enter Try.func10, Try.ntmps10
  go_wp2
  have L0 : Below w.heap.size w ((w.alloc (.cells #[.int .u16 sp, .int .u16 dp, .int .u8 tf, .int .i64 hd, .slice da dn dc] 26)).alloc (.cells #[.slice none 0 0] 23)) := ((Below.refl _ w).alloc (Nat.le_refl _) _).alloc (by simp) _
  have bH := (Below.heap_alloc _ (.cells #[.slice none 0 0] 23) w.heap.size (by simp)).trans (heap_alloc_new w (.cells #[.int .u16 sp, .int .u16 dp, .int .u8 tf, .int .i64 hd, .slice da dn dc] 26))
  refine wp_scope_jumps 0 (fun a' w' => Below w.heap.size w w' ∧ ∃ (u0 u1 u2 u3 u4 u5 u6 u7 u8 u9 u10 u11 u12 u13 u14 u15 u16 u17 u18 u19 u20 u21 u22 u23 u24 u25 u26 u27 u28 u29 u30 u31 u32 u33 u34 u35 u36 u37 u38 u39 u40 u41 u42 : Value), a' = { tmps := #[u0, u1, u2, u3, u4, u5, u6, u7, u8, u9, u10, u11, u12, u13, u14, u15, u16, u17, u18, u19, u20, u21, u22, u23, u24, u25, u26, u27, u28, u29, u30, u31, u32, u33, u34, u35, u36, u37, u38, u39, u40, u41, u42], defers := [] }) (fun _ _ => 0) rfl ?first ?pass
  case first =>
    go_wp2_with (go_at_call 24; refine (mayBe_any sp dp tf hd da dn dc _ hh hdn).mono ?_; rintro e w1 ⟨rfl, m1⟩; have LL := L0.trans (m1.mono L0.size); clear m1; rw [HM.out])
    go_step3
    exact ⟨rfl, LL, _, _, _, _, _, _, _, _, _, _, _, _, _, _, _, _, _, _, _, _, _, _, _, _, _, _, _, _, _, _, _, _, _, _, _, _, _, _, _, _, _, _, _, rfl⟩
  case pass =>
    rintro a' w' ⟨LL, u0, u1, u2, u3, u4, u5, u6, u7, u8, u9, u10, u11, u12, u13, u14, u15, u16, u17, u18, u19, u20, u21, u22, u23, u24, u25, u26, u27, u28, u29, u30, u31, u32, u33, u34, u35, u36, u37, u38, u39, u40, u41, u42, rfl⟩
    go_wp2
    simp only [Exit.jump]
    go_ret2
    exact ⟨rfl, LL⟩
end Go.Proofs.Ytclofmgnnohhpaa
