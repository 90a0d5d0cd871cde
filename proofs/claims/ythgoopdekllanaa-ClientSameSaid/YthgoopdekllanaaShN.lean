/- A sheet's bytes: package sheet's Put. -/
import Derived.Test.YthgoopdekllanaaShM
namespace Go.Proofs.Ythgoopdekllanaa
open Go.RowKit Go.Shelf
open SumM

attribute [local go_sem] Oper.semAt_some

/-- What Put answers. -/
def spB (ba tv : Int) (rs : List SR) : List Int := if shOk ba tv rs = true then shB ba tv rs else []
def spE (ba tv : Int) (rs : List SR) : Int := if shOk ba tv rs = true then 0 else 2
def SPut (ba tv : Int) (rs : List SR) (w : World) : Ending → World → Prop := fun e w' => ∃ v, e = .returned (.tuple #[v, .int .i64 (spE ba tv rs)]) ∧ w'.ownsRow w.heap.size 5 1 v (spB ba tv rs).length ((spB ba tv rs).map (Value.int .u8)) ∧ Below w.heap.size w w'
theorem shOk_iff {ba tv : Int} {rs : List SR} (h : shOk ba tv rs = true) : (0 ≤ tv ∧ tv ≤ 1099511627776) ∧ (-1 ≤ ba ∧ ba < tv) ∧ rs.length ≤ 16 ∧ rises (-1) rs = true := by
  simp only [shOk, Bool.and_eq_true, decide_eq_true_eq] at h
  exact ⟨⟨h.1.1.1.1.1, h.1.1.1.1.2⟩, ⟨h.1.1.1.2, h.1.1.2⟩, rises_le h.2, h.2⟩
theorem rises_mem : ∀ (rs : List SR) (l : Int), -1 ≤ l → rises l rs = true → ∀ r ∈ rs, (0 ≤ r.1 ∧ r.1 < 16) ∧ rgE r.2 = true
  | [], _, _, _, _, h => by cases h
  | x :: xs, l, hl, h, r, hr => by
    simp only [rises, Bool.and_eq_true, decide_eq_true_eq] at h
    rcases List.mem_cons.1 hr with rfl | hr
    · exact ⟨⟨by omega, h.1.1.2⟩, h.1.2⟩
    · exact rises_mem xs x.1 (by omega) h.2 r hr
theorem row_ok {r : SR} (h : (0 ≤ r.1 ∧ r.1 < 16) ∧ rgE r.2 = true) : I64 r.1 ∧ I64 (r.2.1 + 1) ∧ I64 (r.2.2.1 + 1) ∧ I64 r.2.2.2.1 ∧ I64 r.2.2.2.2 := by
  have := rgt_iff.1 h.2
  refine ⟨⟨by omega, by omega⟩, ⟨by omega, by omega⟩, ⟨by omega, by omega⟩, ⟨by omega, by omega⟩, ⟨by omega, by omega⟩⟩

def mkD (D : Nat) : Deferred := { target := .collected D, args := #[] }
/-- What is taken over at the end: blocks that hold no call. -/
structure Marks (S : Nat) (Ds : List Nat) (W : World) : Prop where
  at' : ∀ D ∈ Ds, S ≤ D ∧ W.heap[D]? = some (.deferred (some []))
  nd : Ds.Nodup
theorem Marks.one {S D : Nat} {W : World} (h : W.heap[D]? = some (.deferred (some []))) (hS : S ≤ D) : Marks S [D] W := ⟨fun D' hD => by simp at hD; subst hD; exact ⟨hS, h⟩, by simp⟩
theorem Marks.far {S : Nat} {Ds : List Nat} {W W' : World} (h : Marks S Ds W) (m : Below W.heap.size W W') : Marks S Ds W' := ⟨fun D hD => ⟨(h.at' D hD).1, bbW (h.at' D hD).2 m⟩, h.nd⟩
theorem Marks.keep {S : Nat} {Ds : List Nat} {W W' : World} (h : Marks S Ds W) (k : KeepsOthers W W') : Marks S Ds W' := ⟨fun D hD => ⟨(h.at' D hD).1, k.same _ _ (h.at' D hD).2 rfl⟩, h.nd⟩
theorem Marks.turn {S B : Nat} {Ds : List Nat} {W : World} (h : Marks S Ds W) (hB : ∀ D ∈ Ds, D < B) {l : Nat} (o' : Obj) (hl : B ≤ l) : Marks S Ds (W.putObj l o') := ⟨fun D hD => ⟨(h.at' D hD).1, (World.putObj_heap_other (by have := hB D hD; omega)).trans (h.at' D hD).2⟩, h.nd⟩
theorem Marks.lt {S : Nat} {Ds : List Nat} {W : World} (h : Marks S Ds W) : ∀ D ∈ Ds, D < W.heap.size := fun D hD => (Array.getElem?_eq_some_iff.1 (h.at' D hD).2).1
theorem Marks.cons {S B D : Nat} {Ds : List Nat} {W : World} (h : Marks S Ds W) (hB : ∀ D ∈ Ds, D < B) (hD : B ≤ D) (hS : S ≤ D) (hW : W.heap[D]? = some (.deferred (some []))) : Marks S (D :: Ds) W :=
  ⟨fun D' hD' => by
    rcases List.mem_cons.1 hD' with rfl | h'
    · exact ⟨hS, hW⟩
    · exact h.at' D' h', List.nodup_cons.2 ⟨fun hm => by have := hB D hm; omega, h.nd⟩⟩
/-- All cells are as they were. -/
def CellsAs (S : Nat) (w w' : World) : Prop := Below S w w' ∧ ∀ (b : Nat) (cur : Array Value) (t : TypeId) (r : Nat × Nat), w.heap[b]? = some (.cells cur t r) → w'.heap[b]? = some (.cells cur t r)
theorem own_cellsAs {S : Nat} {w w' : World} (h : CellsAs S w w') {base s : Nat} {e : TypeId} {v : Value} {n : Nat} {xs : List Value} (o : w.ownsRow base e s v n xs) : w'.ownsRow base e s v n xs := by
  refine ⟨o.1, ?_⟩
  rcases o.2 with h0 | ⟨g, cap, cur, hv, h1, hg, h2⟩
  · exact .inl h0
  · exact .inr ⟨g, cap, cur, hv, h1, h.2 _ _ _ _ hg, h2⟩
theorem leaves_marks {F : Fence} {n : Nat} {P : Program} {fn : Func} {tmps : Array Value} {R : Ending → World → Prop} {S : Nat} : ∀ (Ds : List Nat) (w : World), Marks S Ds w → (∀ w', CellsAs S w w' → ∃ v, (results fn tmps).run P w' = .ok v w' ∧ R (.returned v) w') → LeavesInM F n P fn tmps R (Ds.map mkD) .returning w
  | [], w, _, h => h w ⟨Below.refl _ _, fun _ _ _ _ h => h⟩
  | D :: Ds, w, hm, h => by
    have hD := hm.at' D (by simp)
    refine ⟨by simp, .inl ⟨D, _, rfl, run_takeDeferred hD.2, leaves_marks Ds _ ⟨fun D' hD' => ⟨(hm.at' D' (by simp [hD'])).1, ?_⟩, (List.nodup_cons.1 hm.nd).2⟩ ?_⟩⟩
    · exact (World.putObj_heap_other (by intro e; subst e; exact (List.nodup_cons.1 hm.nd).1 hD')).trans (hm.at' D' (by simp [hD'])).2
    · intro w' hw'
      refine h w' ⟨(show Below S w (w.putObj D (.deferred none)) from ⟨rfl, rfl, rfl, by simp [World.putObj], fun k hk => World.putObj_heap_other (by omega)⟩).trans hw'.1, fun b cur t r hb => hw'.2 _ _ _ _ ((World.putObj_heap_other (fun e => ?_)).trans hb)⟩
      subst e
      rw [hD.2] at hb
      cases hb
theorem List.length_append_be (bs : List Int) (wd : Nat) (x : Int) : (bs ++ be wd x).length = bs.length + wd := by rw [List.length_append, be_length]

set_option maxRecDepth 100000 in
set_option maxHeartbeats 8000000 in
theorem sPut_in (n : Nat) (hn : 4 ≤ n) (ba tv : Int) (sa : Option Addr) (sn sc : Nat) (rs : List SR) (hl : rs.length = sn) (hs : sn ≤ 4000000) (w : World) (h : SRow5 w.heap.size w sa rs) :
    CallsIn Fence.wide n Try.prog 15 #[.agg #[.int .i64 ba, .int .i64 tv, .slice sa sn sc]] w (SPut ba tv rs w) := by
  have h1n : 1 ≤ n := by omega
  obtain ⟨i0, hi, hz0, hz1, hz2⟩ := info_parts Try.infoU8
  refine callsIn_of_wp_marks Try.func15 rfl trivial ?_ rfl
  simp only [Try.ntmps15, List.size_toArray, List.length_cons, List.length_nil, Nat.reduceAdd, Nat.reduceSub, Array.replicate_succ, Array.replicate_zero, List.push_toArray, List.append_toArray, List.nil_append, List.cons_append]
  have hE : ∃ g, shOk ba tv rs = g ∧ spB ba tv rs = (if g = true then shB ba tv rs else []) ∧ spE ba tv rs = (if g = true then 0 else 2) := ⟨_, rfl, rfl, rfl⟩
  obtain ⟨g, hg, hb, he⟩ := hE
  have HF := Lib.hid (And.intro hb he)
  have HR := Lib.hid h
  have HL := Lib.hid (And.intro hl hs)
  have KR := Lib.hid (fun (W : World) (h : SRow5 W.heap.size W sa rs) => hg ▸ sRight_any ba tv sa sn sc rs hl hs W h)
  have HG := Lib.hid (fun e : g = true => shOk_iff (hg.trans e))
  clear hb he h hg hl hs
  have bS := blkN (blkN (heap_alloc_new w (.cells #[.int .i64 ba, .int .i64 tv, .slice sa sn sc] 29)) (.cells #[.slice none 0 0] 30)) (.cells #[.int .i64 (sn : Nat)] 3)
  have bB := blkN (newN (w.alloc (.cells #[.int .i64 ba, .int .i64 tv, .slice sa sn sc] 29)) (.cells #[.slice none 0 0] 30) (w.heap.size + 1) (by simp)) (.cells #[.int .i64 (sn : Nat)] 3)
  have bC := newN ((w.alloc (.cells #[.int .i64 ba, .int .i64 tv, .slice sa sn sc] 29)).alloc (.cells #[.slice none 0 0] 30)) (.cells #[.int .i64 (sn : Nat)] 3) (w.heap.size + 2) (by simp)
  have L0 := (((Below.refl w.heap.size w).alloc (Nat.le_refl _) (.cells #[.int .i64 ba, .int .i64 tv, .slice sa sn sc] 29)).alloc (by simp) (.cells #[.slice none 0 0] 30)).alloc (by simp; omega) (.cells #[.int .i64 (sn : Nat)] 3)
  have hZ : (((w.alloc (.cells #[.int .i64 ba, .int .i64 tv, .slice sa sn sc] 29)).alloc (.cells #[.slice none 0 0] 30)).alloc (.cells #[.int .i64 (sn : Nat)] 3)).heap.size = w.heap.size + 3 := by simp
  obtain ⟨q0, q1, q2⟩ := sh_cells _ _ _ _ _ (heap_alloc_new w (.cells #[.int .i64 ba, .int .i64 tv, .slice sa sn sc] 29))
  obtain ⟨p0, p1, p2⟩ := sh_cells _ _ _ _ _ bS
  gi_wp2_with fail
  rw [wpIn_wide]
  refine wp_scope_jumps 0 (fun a' w' => Below w.heap.size w w' ∧ g = false ∧ ∃ (u0 u1 u2 u3 u4 u5 u6 u7 u8 u9 u10 u11 u12 u13 u14 u15 u16 u17 u18 u19 u20 u21 u22 u23 u24 u25 u26 u27 u28 u29 u30 u31 u32 u33 u34 u35 u36 u37 u38 : Value), a' = { tmps := #[u0, u1, u2, u3, u4, u5, u6, u7, u8, u9, u10, u11, u12, u13, u14, u15, u16, u17, u18, u19, u20, u21, u22, u23, u24, u25, u26, u27, u28, u29, u30, u31, u32, u33, u34, u35, u36, u37, u38], defers := [] }) (fun _ _ => 0) rfl ?first ?pass
  case pass =>
    rintro a' w' ⟨LL, hf, u0, u1, u2, u3, u4, u5, u6, u7, u8, u9, u10, u11, u12, u13, u14, u15, u16, u17, u18, u19, u20, u21, u22, u23, u24, u25, u26, u27, u28, u29, u30, u31, u32, u33, u34, u35, u36, u37, u38, rfl⟩
    have HE := Lib.hid LL
    subst hf
    clear LL bS bB bC L0 hZ q0 q1 q2 p0 p1 p2
    go_wp2
    simp only [Exit.jump]
    refine ⟨_, results_tmp2 rfl _ _ _, _, by rw [HF.out.2]; rfl, ?_, HE.out⟩
    rw [HF.out.1]
    exact World.ownsRow_nil _ _ _ _
  case first =>
    rw [← wpIn_wide (n := n)]
    gi_wp2_with fail
    generalize ((w.alloc (.cells #[.int .i64 ba, .int .i64 tv, .slice sa sn sc] 29)).alloc (.cells #[.slice none 0 0] 30)).alloc (.cells #[.int .i64 (sn : Nat)] 3) = W0 at *
    refine ⟨trivial, (callsIn_wide.2 (KR.out W0 (HR.out.below L0 |>.more (by omega)))).mono ?_⟩
    rintro e w1 ⟨rfl, m1⟩
    replace bS := bbW bS m1
    replace bB := bbW bB m1
    replace bC := bbW bC m1
    have hZ1 : w.heap.size + 3 ≤ w1.heap.size := by have := m1.size; omega
    replace L0 := L0.trans (m1.mono L0.size)
    clear q0 q1 q2 p0 p1 p2 m1 KR hZ
    cases g
    · have HE := Lib.hid L0
      clear L0 bS bB bC
      gi_wp2
      refine wpIn_goto ?_
      simp only [Exit.then]
      exact ⟨rfl, HE.out, rfl, _, _, _, _, _, _, _, _, _, _, _, _, _, _, _, _, _, _, _, _, _, _, _, _, _, _, _, _, _, _, _, _, _, _, _, _, _, _, _, rfl⟩
    obtain ⟨hb0, hb1, hb2, hb3⟩ := HG.out rfl
    have hs16 : sn ≤ 16 := by have := HL.out; omega
    have cB := ptr_cell bB
    have fB := sh_frozen bB 0
    have cC := ptr_cell bC
    have E13 := Lib.hid (show (13 : Int) + (sn : Int) * 13 = ((13 + sn * 13 : Nat) : Int) by omega)
    have hsn : (sn : Int) ≤ 16 := by omega
    gi_wp2_with (gi_at_make; refine wpListIn_make_lc _ rfl _ _ _ rfl w.heap.size 5 i0 (.int .u8 0) Try.underlying30 hi hz0 hz1 rfl .i64 .i64 0 (13 + (sn : Int) * 13) 0 (13 + sn * 13) rfl rfl rfl E13.out (Nat.zero_le _) (by rw [hz2]; omega) (by unfold maxLen; omega) (by omega) ?_; intro w2 O2 g2; have M2 := (Below.refl w1.heap.size w1).grown g2 (Nat.le_refl _) (fun j e => by cases e); replace bS := bbW bS M2; replace bB := bbW bB M2; replace bC := bbW bC M2; replace L0 := L0.trans (M2.mono (by omega)); have cB := ptr_cell bB; have fB := sh_frozen bB 0)
    have P0 : PB w ba tv sa sn sc [] (w2.setCell ⟨w.heap.size + 1, 0, none⟩ (.slice (some ⟨w1.heap.size, 0, none⟩) 0 (13 + sn * 13))) := by
      refine ⟨(Below.heap_setCell _ _ _ _ (by simp)).trans bS, (Below.heap_setCell _ _ _ _ (by simp)).trans bC, ⟨.slice (some ⟨w1.heap.size, 0, none⟩) 0 (13 + sn * 13), ?_, ?_⟩, L0.setCell (p := ⟨w.heap.size + 1, 0, none⟩) (by simp) _⟩
      · have := heap_setCell_same w2 (w.heap.size + 1) 0 _ _ (.slice (some ⟨w1.heap.size, 0, none⟩) 0 (13 + sn * 13)) bB
        unfold Boxed
        simpa using this
      · exact ownS_apart (by decide) [.slice (some ⟨w1.heap.size, 0, none⟩) 0 (13 + sn * 13)] 0 _ _ O2 bB
    have hz3 : w.heap.size ≤ (w2.setCell ⟨w.heap.size + 1, 0, none⟩ (.slice (some ⟨w1.heap.size, 0, none⟩) 0 (13 + sn * 13))).heap.size := P0.lo.size
    clear g2 M2 bS bB bC L0 cB fB cC hZ1 O2 E13
    generalize w1.heap.size = gz at *
    generalize w2.setCell ⟨w.heap.size + 1, 0, none⟩ (.slice (some ⟨gz, 0, none⟩) 0 (13 + sn * 13)) = W3 at *
    refine ⟨trivial, (headNumbers_in (n - 1) w.heap.size (w.heap.size + 2) W3).mono ?_⟩
    rintro e w4 ⟨rfl, rfl⟩
    have h1 := blkN (heap_alloc_new W3 (.cells #[.pointer (some ⟨w.heap.size, 0, none⟩)] 78)) (.cells #[.pointer (some ⟨w.heap.size + 2, 0, none⟩)] 79)
    have h2 := newN (W3.alloc (.cells #[.pointer (some ⟨w.heap.size, 0, none⟩)] 78)) (.cells #[.pointer (some ⟨w.heap.size + 2, 0, none⟩)] 79) (W3.heap.size + 1) (by simp)
    have M4 := ((Below.refl W3.heap.size W3).alloc (Nat.le_refl _) (.cells #[.pointer (some ⟨w.heap.size, 0, none⟩)] 78)).alloc (by simp) (.cells #[.pointer (some ⟨w.heap.size + 2, 0, none⟩)] 79)
    have P4 := P0.far M4
    have hz4 : w.heap.size ≤ ((W3.alloc (.cells #[.pointer (some ⟨w.heap.size, 0, none⟩)] 78)).alloc (.cells #[.pointer (some ⟨w.heap.size + 2, 0, none⟩)] 79)).heap.size := P4.lo.size
    have HRG := Lib.hid (show (0 ≤ tv ∧ tv ≤ 1099511627776) ∧ (-1 ≤ ba ∧ ba < tv) ∧ sn ≤ 16 from ⟨hb0, hb1, hs16⟩)
    have HRS := Lib.hid hb3
    clear P0 M4 hb0 hb1 hb2 hb3
    generalize W3.heap.size = nb at *
    generalize (W3.alloc (.cells #[.pointer (some ⟨w.heap.size, 0, none⟩)] 78)).alloc (.cells #[.pointer (some ⟨w.heap.size + 2, 0, none⟩)] 79) = W4 at *
    have HP4 := Lib.hid P4
    have H12 := Lib.hid (And.intro h1 h2)
    clear P4 h1 h2
    gi_wp2
    refine range_okT rfl h1n (gf := 68) (lb := #[.pointer (some ⟨nb, 0, none⟩), .pointer (some ⟨nb + 1, 0, none⟩)]) rfl trivial (enters_of Try.func68 (by kernel_rfl) rfl)
      (encs := hnE w.heap.size (w.heap.size + 2)) (Ok := fun pre x _ => x = pre.length ∧ x < 3) (Kp := KeepT w.heap.size pTs) (S := fun xs => xs = [0, 1, 2]) (Sp := fun _ => True)
      (fun l J Jx W m hN _ _ hY h0 => headNums_in (n - 1) (by omega) l nb (nb + 1) w.heap.size (w.heap.size + 2) w.heap.size W J Jx (bbW H12.out.1 m) (bbW H12.out.2 m) (fun pre x V hj ho => dropK (hY pre x V hj ho)) h0) (fun _ _ _ _ _ _ h _ _ _ => h) keepT_t (fun W l o o' h1 h2 h3 h4 => keepT_b hz4 W l o o' h1 h2 h3 h4) (fun _ => rfl)
      (fun pre W => PB w ba tv sa sn sc (headK ba tv sn pre.length) W) (fun _ _ _ => False) ⟨fun _ _ _ h k => h.far k, fun _ _ l o o' h hl ho hc => h.turn o' (by omega) ho hc⟩ (fun _ => Abide4.none _) HP4.out
      (fun k => .cells #[.pointer (some (hnA w.heap.size (w.heap.size + 2) k)), .int .i64 (hnP k), .int .i64 (hnW k : Nat)] 81) (fun W _ h => keepT_new _ (by omega)) (fun _ _ _ h => h)
      (fun k b => { tmps := #[.agg #[.int .i64 ba, .int .i64 tv, .slice sa sn sc], .pointer (some ⟨w.heap.size, 0, none⟩), .slice none 0 0, .int .i64 0, .pointer (some ⟨w.heap.size + 1, 0, none⟩), .pointer (some ⟨w.heap.size + 1 + 1, 0, none⟩), .pointer (some ⟨b, 0, none⟩), undef, undef, undef, .pointer (some ⟨w.heap.size, 2, none⟩), .slice sa sn sc, .int .i64 (sn : Nat), .agg #[.int .i64 ba, .int .i64 tv, .slice sa sn sc], .bool true, .bool false, .int .i64 (sn : Nat), .int .i64 ((sn : Nat) * 13), .int .i64 (13 + (sn : Nat) * 13), .slice (some ⟨gz, 0, none⟩) 0 (13 + sn * 13), .func (.func 68) #[] #[.pointer (some ⟨nb, 0, none⟩), .pointer (some ⟨nb + 1, 0, none⟩)], nmV (hnA w.heap.size (w.heap.size + 2) k) (hnP k) (hnW k : Nat), undef, undef, undef, undef, undef, undef, undef, undef, undef, undef, undef, undef, undef, undef, undef, undef, undef], defers := [] }) ?assign ?body ?done ?stop
    case assign =>
      intro l x W K hK
      simp only [hnE] at hK ⊢
      gi_wp2
      exact hK
    case stop =>
      rintro D c pre W hD _ h
      exact h.elim
    case body =>
      rintro l pre k W b hPB ⟨hk, hk3⟩ hb1 hb2 hbx
      subst hk
      obtain ⟨x, hn1, hx1, hw1, hnx⟩ := head_next hPB HRG.out hk3
      obtain ⟨v, hv, hO⟩ := hPB.bx
      have cv := hv.cell
      have fv := sh_frozen hv 0
      obtain ⟨c0, c1, c2⟩ := numb_cells hbx
      have hlen := headK_len ba tv sn pre.length
      have hW3 : w.heap.size ≤ W.heap.size := hPB.lo.size
      have KP := Lib.hid (nput_any (hnB w.heap.size (w.heap.size + 2) pre.length) (hnO pre.length) x (hnP pre.length) (hnW pre.length) hw1 hx1 w.heap.size v _ (by omega) W hW3 hn1 hO)
      have HPB := Lib.hid hPB
      have HV := Lib.hid hv
      have HNX := Lib.hid hnx
      clear hPB hO hv hnx hn1 hx1 hw1 hlen hbx
      gi_wp2_with fail
      refine ⟨trivial, (fun _ => by omega), CallsIn.inRound l (callsIn_wide.2 (KP.out.mono ?_))⟩
      rintro e W1 ⟨v', rfl, O1, K1⟩
      rw [← List.length_append_be] at O1
      rw [HNX.out] at O1
      obtain ⟨A, c, rfl, hc0, hc1, hc2⟩ := ownS_slice O1
      have P1 := Lib.hid (HPB.out.put HV.out K1 O1)
      have HK := Lib.hid (fun u => put_keeps (v1 := u) HV.out K1)
      have hv1 : Boxed W1 (w.heap.size + 1) 30 v := K1.1.2 _ _ _ _ (by decide) HV.out
      have cv1 := hv1.cell
      have fv1 := sh_frozen hv1 0
      clear O1 K1 hc0 hc1 hc2 hv1 cv fv c0 c1 c2
      gi_wp2
      exact ⟨(HK.out _).1.from _, (HK.out _).2, by simpa using P1.out⟩
    case done =>
      rintro D ys W hD rfl hPB hK
      simp only [List.length_cons, List.length_nil, Nat.reduceAdd] at hPB
      obtain ⟨q0, q1, q2⟩ := sh_cells _ _ _ _ _ hPB.sh
      have HPB := Lib.hid hPB
      have HK := Lib.hid (And.intro hK hD)
      clear hPB hK hD
      gi_wp2
      have HW := Lib.hid (HPB.out.lo.size)
      refine wpIn_loop (fun a' w' => ∃ (k : Nat) (Ds : List Nat) (u8 u29 u30 u31 u32 u37 : Value), k ≤ sn ∧ PB w ba tv sa sn sc (headK ba tv sn 3 ++ (rs.take k).flatMap rowB) w' ∧ Marks w.heap.size Ds w' ∧ a' = { tmps := #[.agg #[.int .i64 ba, .int .i64 tv, .slice sa sn sc], .pointer (some ⟨w.heap.size, 0, none⟩), .slice none 0 0, .int .i64 0, .pointer (some ⟨w.heap.size + 1, 0, none⟩), .pointer (some ⟨w.heap.size + 1 + 1, 0, none⟩), undef, undef, u8, undef, .pointer (some ⟨w.heap.size, 2, none⟩), .slice sa sn sc, .int .i64 (sn : Nat), .agg #[.int .i64 ba, .int .i64 tv, .slice sa sn sc], .bool true, .bool false, .int .i64 (sn : Nat), .int .i64 ((sn : Nat) * 13), .int .i64 (13 + (sn : Nat) * 13), .slice (some ⟨gz, 0, none⟩) 0 (13 + sn * 13), .func (.func 68) #[] #[.pointer (some ⟨nb, 0, none⟩), .pointer (some ⟨nb + 1, 0, none⟩)], undef, undef, undef, undef, .pointer (some ⟨w.heap.size, 2, none⟩), .slice sa sn sc, .int .i64 (sn : Nat), .int .i64 (k : Nat), u29, u30, u31, u32, undef, undef, undef, undef, u37, undef], defers := Ds.map mkD }) (fun a' _ => sn - (intOf (a'.tmps.getD 28 undef)).toNat) ?start ?round
      case start => exact ⟨0, [D], _, _, _, _, _, _, Nat.zero_le _, by simpa using HPB.out, Marks.one HK.out.1 (by have := HK.out.2; omega), rfl⟩
      case round =>
        rintro a' wr ⟨k, Ds, u8, u29, u30, u31, u32, u37, hk, hP, hM, rfl⟩
        have HP := Lib.hid hP
        have HM := Lib.hid hM
        clear hP hM q0 q1 q2
        by_cases hlt : k < sn
        · have hku : k < rs.length := by rw [HL.out.1]; exact hlt
          obtain ⟨b, off, rfl, hb⟩ := sr_addr HR.out (by omega)
          obtain ⟨x0, x1, x2, x3, x4⟩ := sr_at (HR.out.below HP.out.lo) k hku
          have hk0 : (0 : Int) ≤ (k : Int) := by omega
          have hk1 : (k : Int) < (sn : Int) := by omega
          have hmem : rs[k]?.getD sr0 ∈ rs := by rw [List.getElem?_eq_getElem hku]; exact List.getElem_mem hku
          have hrow := row_ok (rises_mem rs (-1) (by omega) HRS.out _ hmem)
          have htk : (rs.take (k + 1)).flatMap rowB = (rs.take k).flatMap rowB ++ rowB (rs[k]?.getD sr0) := by
            rw [List.take_add_one, List.flatMap_append, List.getElem?_eq_getElem hku]
            simp only [Option.toList, List.flatMap_cons, List.flatMap_nil, List.append_nil, Option.getD_some]
          have hzl : (headK ba tv sn 3 ++ (rs.take k).flatMap rowB).length ≤ 1000 := by
            rw [List.length_append, rowsB_len, List.length_take]
            have := headK_len ba tv sn 3
            omega
          generalize rs[k]?.getD sr0 = u at *
          obtain ⟨u0, u1, u2, u3, u4⟩ := u
          have HTK := Lib.hid htk
          have HZL := Lib.hid hzl
          have HROW := Lib.hid hrow
          clear htk hzl hrow hmem
          generalize hbs : headK ba tv sn 3 ++ (rs.take k).flatMap rowB = bs0 at *
          have HBS := Lib.hid hbs
          clear hbs
          have hz := heap_alloc_new wr (.cells #[.int .i64 0, .int .i64 0, .int .i64 0, .int .i64 0, .int .i64 0] 63)
          obtain ⟨z0, z1, z2, z3, z4⟩ := sr_cells _ _ _ _ _ hz
          have f0 := ent_frozen hz 0
          have f1 := ent_frozen hz 1
          have f2 := ent_frozen hz 2
          have f3 := ent_frozen hz 3
          have f4 := ent_frozen hz 4
          clear hz
          gi_wp2_with fail
          have hrB := heap_alloc_new wr (.cells #[.int .i64 u0, .int .i64 u1, .int .i64 u2, .int .i64 u3, .int .i64 u4] 63)
          have MA := (Below.refl wr.heap.size wr).alloc (Nat.le_refl _) (.cells #[.int .i64 u0, .int .i64 u1, .int .i64 u2, .int .i64 u3, .int .i64 u4] 63)
          have PV := HP.out.far MA
          have MV := HM.out.far MA
          have hzr : w.heap.size + 3 ≤ wr.heap.size := by have := (Array.getElem?_eq_some_iff.1 HP.out.ct).1; omega
          have KB : KeepsOthers wr wr := KeepsOthers.refl _
          clear z0 z1 z2 z3 z4 f0 f1 f2 f3 f4 x0 x1 x2 x3 x4 MA KB
          generalize hrBe : wr.heap.size = rB at *
          have hzV : rB < (wr.alloc (.cells #[.int .i64 u0, .int .i64 u1, .int .i64 u2, .int .i64 u3, .int .i64 u4] 63)).heap.size := by simp; omega
          clear hrBe
          generalize wr.alloc (.cells #[.int .i64 u0, .int .i64 u1, .int .i64 u2, .int .i64 u3, .int .i64 u4] 63) = V at *
          refine ⟨trivial, (rowNumbers_in (n - 1) rB V).mono ?_⟩
          rintro e w5 ⟨rfl, rfl⟩
          have h5 := heap_alloc_new V (.cells #[.pointer (some ⟨rB, 0, none⟩)] 84)
          have M5 := (Below.refl V.heap.size V).alloc (Nat.le_refl _) (.cells #[.pointer (some ⟨rB, 0, none⟩)] 84)
          have P5 := PV.far M5
          have M5s := MV.far M5
          have hrB5 := bbW hrB M5
          have hz5 : w.heap.size ≤ (V.alloc (.cells #[.pointer (some ⟨rB, 0, none⟩)] 84)).heap.size := P5.lo.size
          clear PV MV M5 hrB hzV
          generalize V.heap.size = nr at *
          generalize V.alloc (.cells #[.pointer (some ⟨rB, 0, none⟩)] 84) = V5 at *
          have HP5 := Lib.hid P5
          have HM5 := Lib.hid (And.intro M5s M5s.lt)
          have H5 := Lib.hid (And.intro h5 hrB5)
          clear P5 M5s h5 hrB5
          gi_wp2
          refine range_okT rfl h1n (gf := 69) (lb := #[.pointer (some ⟨nr, 0, none⟩)]) rfl trivial (enters_of Try.func69 (by kernel_rfl) rfl)
            (encs := rnE rB) (Ok := fun pre x _ => x = pre.length ∧ x < 5) (Kp := KeepT w.heap.size pTs) (S := fun xs => xs = [0, 1, 2, 3, 4]) (Sp := fun _ => True)
            (fun l J Jx W m hN _ _ hY h0 => rowNums_in (n - 1) (by omega) l nr rB w.heap.size W J Jx (bbW H5.out.1 m) (fun pre x V hj ho => dropK (hY pre x V hj ho)) h0) (fun _ _ _ _ _ _ h _ _ _ => h) keepT_t (fun W l o o' h1 h2 h3 h4 => keepT_b hz5 W l o o' h1 h2 h3 h4) (fun _ => rfl)
            (fun pre W => PB w ba tv (some ⟨b, off, none⟩) sn sc (bs0 ++ rowK (u0, u1, u2, u3, u4) pre.length) W ∧ W.heap[rB]? = some (.cells #[.int .i64 u0, .int .i64 u1, .int .i64 u2, .int .i64 u3, .int .i64 u4] 63 (0, 0)) ∧ Marks w.heap.size Ds W) (fun _ _ _ => False)
            ⟨fun _ _ _ h k => ⟨h.1.far k, bbW h.2.1 k, h.2.2.far k⟩, fun _ _ l o o' h hl ho hc => ⟨h.1.turn o' (by omega) ho hc, (World.putObj_heap_other (fun e => other_ne h.2.1 ho hc e)).trans h.2.1, h.2.2.turn HM5.out.2 o' hl⟩⟩ (fun _ => Abide4.none _) ⟨by simpa [rowK] using HP5.out, H5.out.2, HM5.out.1⟩
            (fun k => .cells #[.pointer (some ⟨rB, k, none⟩), .int .i64 (rnP k), .int .i64 (rnW k : Nat)] 81) (fun W _ h => keepT_new _ (by omega)) (fun _ _ _ h => h)
            (fun x b' => { tmps := #[.agg #[.int .i64 ba, .int .i64 tv, .slice (some ⟨b, off, none⟩) sn sc], .pointer (some ⟨w.heap.size, 0, none⟩), .slice none 0 0, .int .i64 0, .pointer (some ⟨w.heap.size + 1, 0, none⟩), .pointer (some ⟨w.heap.size + 1 + 1, 0, none⟩), undef, undef, .pointer (some ⟨rB, 0, none⟩), .pointer (some ⟨b', 0, none⟩), .pointer (some ⟨w.heap.size, 2, none⟩), .slice (some ⟨b, off, none⟩) sn sc, .int .i64 (sn : Nat), .agg #[.int .i64 ba, .int .i64 tv, .slice (some ⟨b, off, none⟩) sn sc], .bool true, .bool false, .int .i64 (sn : Nat), .int .i64 ((sn : Nat) * 13), .int .i64 (13 + (sn : Nat) * 13), .slice (some ⟨gz, 0, none⟩) 0 (13 + sn * 13), .func (.func 68) #[] #[.pointer (some ⟨nb, 0, none⟩), .pointer (some ⟨nb + 1, 0, none⟩)], undef, undef, undef, undef, .pointer (some ⟨w.heap.size, 2, none⟩), .slice (some ⟨b, off, none⟩) sn sc, .int .i64 (sn : Nat), .int .i64 (k : Nat), .bool true, .pointer (some ⟨b, off + k * 5, none⟩), srV (u0, u1, u2, u3, u4), .func (.func 69) #[] #[.pointer (some ⟨nr, 0, none⟩)], nmV ⟨rB, x, none⟩ (rnP x) (rnW x : Nat), undef, undef, undef, u37, undef], defers := [] }) ?assign ?body ?done ?stop
          case assign =>
            intro l x W K hK
            simp only [rnE] at hK ⊢
            gi_wp2
            exact hK
          case stop =>
            rintro D c pre W hD _ h
            exact h.elim
          case body =>
            rintro l pre q W bb' ⟨hPB, hrb, hmk⟩ ⟨hq, hq5⟩ hb1 hb2 hbx
            subst hq
            obtain ⟨x, hn1, hx1, hw1, hnx⟩ := row_next hrb HROW.out hq5
            obtain ⟨v, hv, hO⟩ := hPB.bx
            have cv := hv.cell
            have fv := sh_frozen hv 0
            obtain ⟨c0, c1, c2⟩ := numb_cells hbx
            have hlen := rowK_len (u0, u1, u2, u3, u4) pre.length
            have hW3 : w.heap.size ≤ W.heap.size := hPB.lo.size
            have KP := Lib.hid (nput_any rB pre.length x (rnP pre.length) (rnW pre.length) hw1 hx1 w.heap.size v _ (by have h7 := HZL.out; rw [List.length_append]; omega) W hW3 hn1 hO)
            have HPB := Lib.hid hPB
            have HV := Lib.hid hv
            have HNX := Lib.hid hnx
            have HMK := Lib.hid hmk
            have HRB := Lib.hid hrb
            clear hPB hO hv hnx hn1 hx1 hw1 hlen hbx hmk hrb
            gi_wp2_with fail
            refine ⟨trivial, (fun _ => by omega), CallsIn.inRound l (callsIn_wide.2 (KP.out.mono ?_))⟩
            rintro e W1 ⟨v', rfl, O1, K1⟩
            rw [← List.length_append_be] at O1
            rw [List.append_assoc, HNX.out] at O1
            obtain ⟨A, c, rfl, hc0, hc1, hc2⟩ := ownS_slice O1
            have P1 := Lib.hid (HPB.out.put HV.out K1 O1)
            have HK := Lib.hid (fun u => put_keeps (v1 := u) HV.out K1)
            have hv1 : Boxed W1 (w.heap.size + 1) 30 v := K1.1.2 _ _ _ _ (by decide) HV.out
            have cv1 := hv1.cell
            have fv1 := sh_frozen hv1 0
            have HRB1 := Lib.hid (fun u => show (W1.setCell ⟨w.heap.size + 1, 0, none⟩ u).heap[rB]? = _ from (Below.heap_setCell _ _ _ _ (by simp; omega)).trans (K1.1.2 _ _ _ _ (by decide) HRB.out))
            clear O1 K1 hc0 hc1 hc2 hv1 cv fv c0 c1 c2
            gi_wp2
            exact ⟨(HK.out _).1.from _, (HK.out _).2, by simpa using P1.out, HRB1.out _, HMK.out.keep (HK.out _).1⟩
          case done =>
            rintro D' ys W hD rfl ⟨hPB, hrb, hmk⟩ hK
            have HPB' := Lib.hid hPB
            have HMK' := Lib.hid (hmk.cons HM5.out.2 hD (by omega) hK)
            clear hPB hmk hK hD hrb
            gi_wp2
            refine ⟨⟨k + 1, D' :: Ds, _, _, _, _, _, _, by omega, ?_, HMK'.out, rfl⟩, ?_⟩
            · rw [HTK.out, ← List.append_assoc, HBS.out]
              exact HPB'.out
            · simp [intOf]
              omega
        · obtain rfl : k = sn := by omega
          obtain ⟨v, hv, hO⟩ := HP.out.bx
          have cv := hv.cell
          have HO := Lib.hid hO
          clear hv hO
          have hbs : headK ba tv k 3 ++ (rs.take k).flatMap rowB = spB ba tv rs := by
            rw [HF.out.1, if_pos trivial, List.take_of_length_le (by rw [HL.out.1]; exact Nat.le_refl _), shB, HL.out.1]
            rfl
          rw [hbs] at HO
          gi_wp2
          simp only [Exit.jump]
          refine leaves_marks (S := w.heap.size) Ds wr HM.out ?_
          intro w' hw'
          refine ⟨_, results_tmp2 rfl _ _ _, v, ?_, own_cellsAs hw' HO.out, HP.out.lo.trans hw'.1⟩
          rw [HF.out.2]
          rfl

theorem sPut_any (ba tv : Int) (sa : Option Addr) (sn sc : Nat) (rs : List SR) (hl : rs.length = sn) (hs : sn ≤ 4000000) (w : World) (h : SRow5 w.heap.size w sa rs) : Calls Try.prog 15 #[.agg #[.int .i64 ba, .int .i64 tv, .slice sa sn sc]] w (SPut ba tv rs w) :=
  callsIn_wide.1 (sPut_in 6 (by omega) ba tv sa sn sc rs hl hs w h)

end Go.Proofs.Ythgoopdekllanaa
