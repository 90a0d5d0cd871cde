/- Sheets: in memory of its own, of package sheet and the document's. -/
import Derived.Test.YthgoopdekllanaaShA
namespace Go.Proofs.Ythgoopdekllanaa
open Go.RowKit Go.Shelf
open SumM

theorem Try.infoRow : (Try.prog.info? 63).map (fun i => (i.zero, i.size, i.bytes)) = some (some (.agg #[.int .i64 0, .int .i64 0, .int .i64 0, .int .i64 0, .int .i64 0]), 5, 40) := by kernel_rfl
theorem Try.sizSh : (Try.prog.info? 29).map (·.size) = some 3 := by kernel_rfl
theorem results_sh {fn : Func} {p : Tmp} (h : fn.results = #[.cell p 29]) (tmps : Array Value) (w : World) (g : Nat) (cs : Array Value) (fr : Nat × Nat)
    (hp : tmps.getD p undef = .pointer (some ⟨g, 0, none⟩)) (hg : w.heap[g]? = some (.cells cs 29 fr)) (h9 : cs.size = 3) :
    (results fn tmps).run Try.prog w = .ok (.agg cs) w := by
  exact results_cell_row h tmps w g 29 cs fr _ hp hg Try.underlying29 rfl (by rw [h9]; exact Try.sizSh)
theorem sh_frozen {w : World} {b : Nat} {cs : Array Value} {t : TypeId} (h : w.heap[b]? = some (.cells cs t (0, 0))) (i : Nat) : w.frozen? ⟨b, i, none⟩ = false := by simp [World.frozen?, h]
theorem ownS_slice {w : World} {base s : Nat} {e : TypeId} {v : Value} {n : Nat} {xs : List Value} (h : w.ownsRow base e s v n xs) : ∃ A c, v = .slice A n c ∧ (A = none → c = 0) ∧ n ≤ c ∧ c ≤ maxLen := by
  rcases h.2 with ⟨hv, h0⟩ | ⟨g, cap, cur, hv, hb, _, h1, h2, _⟩
  · subst h0
    exact ⟨none, 0, hv, (fun _ => rfl), Nat.le_refl _, by unfold maxLen; omega⟩
  · exact ⟨_, cap, hv, (fun h => by cases h), h1, h2⟩
/-- What the call owns stays owned while cells of a block of another type are written. -/
theorem ownS_apart {base s : Nat} {e : TypeId} {v : Value} {n : Nat} {xs : List Value} {b : Nat} {t : TypeId} (ht : t ≠ e) : ∀ (vs : List Value) (o : Nat) (w : World) (cur : Array Value), w.ownsRow base e s v n xs → w.heap[b]? = some (.cells cur t (0, 0)) → (w.setCells b o vs).ownsRow base e s v n xs
  | [], _, _, _, h, _ => h
  | u :: r, o, w, cur, h, hb => ownS_apart ht r (o + 1) (w.setCell ⟨b, o, none⟩ u) _ (ownsRow_setCell_other h (a := ⟨b, o, none⟩) (fun he => by
      rcases h.2 with ⟨hv, _⟩ | ⟨g, cap, c2, hv, _, hg, _⟩
      · rw [hv] at he
        cases he
      · rw [hv] at he
        injection he with he
        simp only at he
        subst he
        rw [hg] at hb
        injection hb with hb
        injection hb with _ hb _
        exact ht hb.symm) u) (heap_setCell_same w b o _ t _ hb)
/-- A new slice of no rows, its block there. -/
theorem ownS_empty {w : World} {m : Nat} (h : w.heap.size = m) (base : Nat) (hb : base ≤ m) (e : TypeId) (s : Nat) : (w.alloc (.cells #[] e)).ownsRow base e s (.slice (some ⟨m, 0, none⟩) 0 0) 0 [] := by
  subst h
  exact ⟨by simp, .inr ⟨w.heap.size, 0, #[], rfl, hb, heap_alloc_new w _, Nat.le_refl _, by unfold maxLen; omega, by simp, by simp⟩⟩
/-- A sheet of its own: its rows lie in memory made since w. -/
def ShOwn (ba tv : Int) (rs : List SR) (w : World) : Ending → World → Prop := fun e w' => ∃ v, e = .returned (.agg #[.int .i64 ba, .int .i64 tv, v]) ∧ w'.ownsRow w.heap.size 63 5 v rs.length (flatS rowC rs) ∧ Below w.heap.size w w'

/-- A sheet whose rows were stored, then laid into the answer. -/
theorem sh_end {w w1 : World} {m : Nat} (hm : w.heap.size ≤ m) {cs : Array Value} {x y z v ba tv : Value} {base n : Nat} {xs : List Value} (BS : w1.heap[m]? = some (.cells cs 29 (0, 0))) (BR : w1.heap[m + 1]? = some (.cells #[x, y, z] 29 (0, 0)))
    (O : w1.ownsRow base 63 5 v n xs) (LL : Below w.heap.size w w1) :
    ((w1.setCell ⟨m, 2, none⟩ v).setCells (m + 1) 0 [ba, tv, v]).heap[m + 1]? = some (.cells #[ba, tv, v] 29 (0, 0)) ∧ ((w1.setCell ⟨m, 2, none⟩ v).setCells (m + 1) 0 [ba, tv, v]).ownsRow base 63 5 v n xs ∧ Below w.heap.size w ((w1.setCell ⟨m, 2, none⟩ v).setCells (m + 1) 0 [ba, tv, v]) := by
  have B2 : (w1.setCell ⟨m, 2, none⟩ v).heap[m + 1]? = some (.cells #[x, y, z] 29 (0, 0)) := (Below.heap_setCell _ _ _ _ (by simp)).trans BR
  refine ⟨full_setCells B2 [ba, tv, v] rfl, ?_, ?_⟩
  · exact ownS_apart (by decide) _ _ _ _ (ownS_apart (by decide) [v] 2 _ _ O BS) B2
  · exact below_setCells (m + 1) (by omega) _ _ _ _ (below_setCells m hm [v] 2 _ _ LL)

set_option maxRecDepth 100000 in
set_option maxHeartbeats 4000000 in
theorem sOwn_any (ba tv : Int) (sa : Option Addr) (sn sc : Nat) (rs : List SR) (hl : rs.length = sn) (hs : sn ≤ 4000000) (hn : sa = none → sc = 0) (w : World) (h : SRow5 w.heap.size w sa rs) :
    Calls Try.prog 24 #[.agg #[.int .i64 ba, .int .i64 tv, .slice sa sn sc]] w (ShOwn ba tv rs w) := by
  have HL := Lib.hid hl
  have HR := Lib.hid h
  have HN := Lib.hid hn
  clear hl h hn
  have bS := blkN (heap_alloc_new w (.cells #[.int .i64 ba, .int .i64 tv, .slice sa sn sc] 29)) (.cells #[.int .i64 0, .int .i64 0, .slice none 0 0] 29)
  have bR := newN (w.alloc (.cells #[.int .i64 ba, .int .i64 tv, .slice sa sn sc] 29)) (.cells #[.int .i64 0, .int .i64 0, .slice none 0 0] 29) (w.heap.size + 1) (by simp)
  have L0 := ((Below.refl w.heap.size w).alloc (Nat.le_refl _) (.cells #[.int .i64 ba, .int .i64 tv, .slice sa sn sc] 29)).alloc (by simp) (.cells #[.int .i64 0, .int .i64 0, .slice none 0 0] 29)
  have hsz : ((w.alloc (.cells #[.int .i64 ba, .int .i64 tv, .slice sa sn sc] 29)).alloc (.cells #[.int .i64 0, .int .i64 0, .slice none 0 0] 29)).heap.size = w.heap.size + 2 := by simp
  obtain ⟨q0, q1, q2⟩ := sh_cells _ _ _ _ _ bS
  obtain ⟨i0, hi, hz0, hz1, hz2⟩ := info_parts Try.infoRow
  go_enter Try.func24, Try.ntmps24
  go_upto_region 1 with fail
  generalize (w.alloc (.cells #[.int .i64 ba, .int .i64 tv, .slice sa sn sc] 29)).alloc (.cells #[.int .i64 0, .int .i64 0, .slice none 0 0] 29) = W0 at *
  go_wp2_with (at_builtin; refine wpList_append_srow rowC_len rowC_one (by decide) _ rfl _ _ 27 rfl w.heap.size 63 i0 (.agg #[.int .i64 0, .int .i64 0, .int .i64 0, .int .i64 0, .int .i64 0]) 40 Try.underlying27 hi hz0 hz1 hz2 rfl _ 0 [] rfl (World.ownsRow_nil _ _ _ _) w.heap.size sa sn sc rs rfl HL.out (HR.out.below L0) HN.out (by unfold maxLen; omega) (by omega) (by rw [hsz]; omega) ?_; intro v1 w1 O1 g1; have M1 := (Below.refl (w.heap.size + 2) W0).grown g1 (by rw [hsz]; omega) (fun j e => by cases e); have BS := (M1.block w.heap.size (by omega)).trans bS; have BR := (M1.block (w.heap.size + 1) (by omega)).trans bR; have LL := L0.trans (M1.mono (by omega)); obtain ⟨A, c, rfl, hc0, hc1, hc2⟩ := ownS_slice O1; have f2 := sh_frozen BS 2; obtain ⟨x0, x1, x2⟩ := sh_cells _ _ _ _ _ BS; have f0 := sh_frozen BR 0; have f1 := sh_frozen BR 1; have f3 := sh_frozen BR 2; obtain ⟨y0, y1, y2⟩ := sh_cells _ _ _ _ _ BR; have HE := Lib.hid (sh_end (w := w) (Nat.le_refl _) (ba := .int .i64 ba) (tv := .int .i64 tv) BS BR O1 LL); clear O1 hc0 hc1 hc2 bS bR q0 q1 q2 g1 M1 BS BR LL)
  have hE := HE.out
  simp only [Nat.zero_add, List.nil_append] at hE
  exact bodyPost_ret (results_sh rfl _ _ (w.heap.size + 1) _ (0, 0) rfl hE.1 rfl) rfl ⟨_, rfl, by rw [HL.out]; exact hE.2.1, hE.2.2⟩

end Go.Proofs.Ythgoopdekllanaa
