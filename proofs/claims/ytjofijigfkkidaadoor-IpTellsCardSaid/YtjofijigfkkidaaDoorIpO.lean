/- The document's own answers on heads: Own, Size, two, four, number, check. -/
import Derived.Test.YtjofijigfkkidaaDoorIpC
namespace Go.Proofs.YtjofijigfkkidaaDoor
open Go.RowKit Go.Shelf
open SumM

theorem own_builtAt {w : World} {m : Nat} (h : w.heap.size = m) (base : Nat) (hb : base ≤ m) (e : TypeId) (xs : List Value) (n : Nat) (hn : xs.length = n) (hl : n ≤ maxLen) : (w.alloc (.cells xs.toArray e)).ownsRow base e 1 (.slice (some ⟨m, 0, none⟩) n n) n xs := by
  subst h
  exact own_built w base hb e xs n hn hl

/-- A block that lay ahead of an append to a slice that was just built. -/
theorem grow_block {W w3 : World} {b m : Nat} {x o : Obj} (h : W.heap[b]? = some x) (hW : W.heap.size = m) (hlt : b < m) (hg : (W.alloc o).grownBy w3 (Value.slice (some ⟨m, 0, none⟩) 0 0).ownBlock) : w3.heap[b]? = some x :=
  (hg.block b (by simp; omega) (by simp [Value.ownBlock]; omega)).trans ((Below.heap_alloc W o b (by omega)).trans h)
theorem grow_own {W w3 : World} {base m n : Nat} {e : TypeId} {v : Value} {xs : List Value} {o : Obj} (h : W.ownsRow base e 1 v n xs) (hW : W.heap.size = m) (hg : (W.alloc o).grownBy w3 (Value.slice (some ⟨m, 0, none⟩) 0 0).ownBlock) : w3.ownsRow base e 1 v n xs := by
  refine (h.alloc o).kept hg ?_
  rcases hv : v.ownBlock with _ | x
  · exact .inl rfl
  · have := (h.lt x hv).2
    exact .inr (by simp [Value.ownBlock]; omega)

theorem own2_facts {w W w3 : World} {m : Nat} {sv nu fl ho pr sr ds : Int} {A1 A2 pa : Option Addr} {on C1 pn C2 pc : Nat} {os ps : List Int} {o : Obj} {cz : Array Value}
    (c2 : W.heap[w.heap.size]? = some (.cells #[.int .u8 sv, .int .u16 nu, .int .u16 fl, .int .u8 ho, .int .u8 pr, .int .u32 sr, .int .u32 ds, .slice A1 on C1, .slice pa pn pc] 26 (0, 0)))
    (d2 : W.heap[w.heap.size + 1]? = some (.cells cz 26 (0, 0)))
    (O2 : W.ownsRow w.heap.size 5 1 (.slice A1 on C1) on (os.map (Value.int .u8))) (hs : W.heap.size = m) (hlt : w.heap.size + 1 < m)
    (hg : (W.alloc o).grownBy w3 (Value.slice (some ⟨m, 0, none⟩) 0 0).ownBlock) (O3 : w3.ownsRow w.heap.size 5 1 (.slice A2 pn C2) pn (ps.map (Value.int .u8))) :
    w3.heap[w.heap.size]? = some (.cells #[.int .u8 sv, .int .u16 nu, .int .u16 fl, .int .u8 ho, .int .u8 pr, .int .u32 sr, .int .u32 ds, .slice A1 on C1, .slice pa pn pc] 26 (0, 0)) ∧
    (w3.setCell ⟨w.heap.size, 8, none⟩ (.slice A2 pn C2)).heap[w.heap.size]? = some (.cells #[.int .u8 sv, .int .u16 nu, .int .u16 fl, .int .u8 ho, .int .u8 pr, .int .u32 sr, .int .u32 ds, .slice A1 on C1, .slice A2 pn C2] 26 (0, 0)) ∧
    (w3.setCell ⟨w.heap.size, 8, none⟩ (.slice A2 pn C2)).heap[w.heap.size + 1]? = some (.cells cz 26 (0, 0)) ∧
    (w3.setCell ⟨w.heap.size, 8, none⟩ (.slice A2 pn C2)).ownsRow w.heap.size 5 1 (.slice A1 on C1) on (os.map (Value.int .u8)) ∧
    (w3.setCell ⟨w.heap.size, 8, none⟩ (.slice A2 pn C2)).ownsRow w.heap.size 5 1 (.slice A2 pn C2) pn (ps.map (Value.int .u8)) := by
  have c3 := grow_block c2 hs (by omega) hg
  have d3 := grow_block d2 hs hlt hg
  have O3' := grow_own O2 hs hg
  refine ⟨c3, ?_, ?_, ?_, ?_⟩
  · exact heap_setCell_same w3 w.heap.size 8 _ _ (.slice A2 pn C2) c3
  · exact (Below.heap_setCell w3 ⟨w.heap.size, 8, none⟩ (.slice A2 pn C2) (w.heap.size + 1) (by simp)).trans d3
  · exact own_apart O3' c3 (by decide) 8 (.slice A2 pn C2)
  · exact own_apart O3 c3 (by decide) 8 (.slice A2 pn C2)

set_option maxRecDepth 100000 in
set_option maxHeartbeats 4000000 in
theorem refOwn_any (sv nu fl ho pr sr ds : Int) (oa : Option Addr) (on oc : Nat) (pa : Option Addr) (pn pc : Nat) (os ps : List Int) (w : World) (hro : Row .u8 w.heap.size w oa os) (hol : os.length = on) (hon : oa = none → oc = 0) (hrp : Row .u8 w.heap.size w pa ps) (hpl : ps.length = pn) (hpn : pa = none → pc = 0) (ho' : on ≤ 1048576) (hp' : pn ≤ 1048576) :
    Calls Tryd.prog 23 #[.agg #[.int .u8 sv, .int .u16 nu, .int .u16 fl, .int .u8 ho, .int .u8 pr, .int .u32 sr, .int .u32 ds, .slice oa on oc, .slice pa pn pc]] w fun e w' => ∃ v, e = .returned v ∧ HeadRet sv nu fl ho pr sr ds os ps w v w' := by
  subst hol hpl
  obtain ⟨i0, hi, hz0, hz1, hz2⟩ := info_parts Tryd.infoU8
  have HON := Lib.hid hon
  have HPN := Lib.hid hpn
  have r0 := Lib.hid (fun W (m : Below w.heap.size w W) => hro.below m)
  have p0 := Lib.hid (fun W (m : Below w.heap.size w W) => hrp.below m)
  clear hon hpn hro hrp
  have L0 : Below w.heap.size w ((w.alloc (.cells #[.int .u8 sv, .int .u16 nu, .int .u16 fl, .int .u8 ho, .int .u8 pr, .int .u32 sr, .int .u32 ds, .slice oa os.length oc, .slice pa ps.length pc] 26)).alloc (.cells #[.int .u8 0, .int .u16 0, .int .u16 0, .int .u8 0, .int .u8 0, .int .u32 0, .int .u32 0, .slice none 0 0, .slice none 0 0] 26)) := ((Below.refl _ w).alloc (Nat.le_refl _) _).alloc (by simp) _
  go_enter Tryd.func23, Tryd.ntmps23
  have bH := heap_alloc_new w (.cells #[.int .u8 sv, .int .u16 nu, .int .u16 fl, .int .u8 ho, .int .u8 pr, .int .u32 sr, .int .u32 ds, .slice oa os.length oc, .slice pa ps.length pc] 26)
  have bR := heap_alloc_new (w.alloc (.cells #[.int .u8 sv, .int .u16 nu, .int .u16 fl, .int .u8 ho, .int .u8 pr, .int .u32 sr, .int .u32 ds, .slice oa os.length oc, .slice pa ps.length pc] 26)) (.cells #[.int .u8 0, .int .u16 0, .int .u16 0, .int .u8 0, .int .u8 0, .int .u32 0, .int .u32 0, .slice none 0 0, .slice none 0 0] 26)
  rw [World.size_alloc] at bR
  have bH2 := (Below.heap_alloc _ (.cells #[.int .u8 0, .int .u16 0, .int .u16 0, .int .u8 0, .int .u8 0, .int .u32 0, .int .u32 0, .slice none 0 0, .slice none 0 0] 26) w.heap.size (by simp)).trans bH
  have hs0 : ((w.alloc (.cells #[.int .u8 sv, .int .u16 nu, .int .u16 fl, .int .u8 ho, .int .u8 pr, .int .u32 sr, .int .u32 ds, .slice oa os.length oc, .slice pa ps.length pc] 26)).alloc (.cells #[.int .u8 0, .int .u16 0, .int .u16 0, .int .u8 0, .int .u8 0, .int .u32 0, .int .u32 0, .slice none 0 0, .slice none 0 0] 26)).heap.size = w.heap.size + 2 := by simp
  have HS0 := Lib.hid hs0
  have HSZ := Lib.hid (fun (W : World) (h : w.heap.size ≤ W.heap.size) => (show w.heap.size < (W.alloc (.cells #[] 5)).heap.size by simp; omega))
  clear hs0
  have hb1 : w.heap.size < (((w.alloc (.cells #[.int .u8 sv, .int .u16 nu, .int .u16 fl, .int .u8 ho, .int .u8 pr, .int .u32 sr, .int .u32 ds, .slice oa os.length oc, .slice pa ps.length pc] 26)).alloc (.cells #[.int .u8 0, .int .u16 0, .int .u16 0, .int .u8 0, .int .u8 0, .int .u32 0, .int .u32 0, .slice none 0 0, .slice none 0 0] 26)).alloc (.cells #[] 5)).heap.size := by simp <;> omega
  have hb2 : w.heap.size + 1 < (((w.alloc (.cells #[.int .u8 sv, .int .u16 nu, .int .u16 fl, .int .u8 ho, .int .u8 pr, .int .u32 sr, .int .u32 ds, .slice oa os.length oc, .slice pa ps.length pc] 26)).alloc (.cells #[.int .u8 0, .int .u16 0, .int .u16 0, .int .u8 0, .int .u8 0, .int .u32 0, .int .u32 0, .slice none 0 0, .slice none 0 0] 26)).alloc (.cells #[] 5)).heap.size := by simp
  have hb1' := hb1
  have hb2' := hb2
  have bH3 := (Below.heap_alloc _ (.cells #[] 5) w.heap.size (by simp <;> omega)).trans bH2
  have bR3 := (Below.heap_alloc _ (.cells #[] 5) (w.heap.size + 1) (by simp)).trans bR
  go_wp2_with (first
    | (at_builtin; (refine wpList_append_row _ rfl (.tmp 3) (.tmp 5) 24 rfl w.heap.size 5 i0 (.int .u8 0) 1 Tryd.underlying24 hi hz0 hz1 hz2 rfl (.slice (some ⟨w.heap.size + 2, 0, none⟩) 0 0) 0 [] rfl (own_builtAt HS0.out w.heap.size (by omega) 5 [] 0 rfl (by unfold maxLen; omega)) .u8 w.heap.size oa os.length oc os rfl rfl (r0.out _ (L0.alloc L0.size _)) HON.out (by unfold maxLen; omega) (by omega) (Nat.le_of_lt hb1) ?_; intro v1 w1 O1 hgrow1; simp only [Nat.zero_add, List.nil_append] at O1; have L1 := (L0.alloc L0.size (.cells #[] 5)).grown hgrow1 (Nat.le_of_lt hb1) (fun j hj => by cases hj; show w.heap.size ≤ w.heap.size + 1 + 1; omega); obtain ⟨A1, C1, rfl⟩ := own_slice O1; have c1 := grow_block bH2 HS0.out (by omega) hgrow1; have d1 := grow_block bR HS0.out (by omega) hgrow1; have s1 := hgrow1.size; obtain ⟨⟨q0, q1, q2, q3, q4, q5, q6, q7, q8⟩, qf⟩ := nine_cells c1; have qf7 := qf 7; have c2 : (w1.setCell ⟨w.heap.size, 7, none⟩ (.slice A1 os.length C1)).heap[w.heap.size]? = some (.cells #[.int .u8 sv, .int .u16 nu, .int .u16 fl, .int .u8 ho, .int .u8 pr, .int .u32 sr, .int .u32 ds, .slice A1 os.length C1, .slice pa ps.length pc] 26 (0, 0)) := heap_setCell_same w1 w.heap.size 7 _ _ (.slice A1 os.length C1) c1; have c2' := (Below.heap_alloc _ (.cells #[] 5) w.heap.size (by rw [World.size_setCell]; exact Nat.lt_of_lt_of_le hb1' s1)).trans c2; obtain ⟨⟨_, _, _, _, _, _, _, _, y8⟩, _⟩ := nine_cells c2'; have d2 := (Below.heap_setCell w1 ⟨w.heap.size, 7, none⟩ (.slice A1 os.length C1) (w.heap.size + 1) (by simp)).trans d1; have L2 := L1.setCell (p := ⟨w.heap.size, 7, none⟩) (Nat.le_refl _) (.slice A1 os.length C1); have O2 : (w1.setCell ⟨w.heap.size, 7, none⟩ (.slice A1 os.length C1)).ownsRow w.heap.size 5 1 (.slice A1 os.length C1) os.length (os.map (Value.int .u8)) := own_apart O1 c1 (by decide) 7 (.slice A1 os.length C1)))
    | (at_builtin; (refine wpList_append_row _ rfl (.tmp 8) (.tmp 10) 24 rfl w.heap.size 5 i0 (.int .u8 0) 1 Tryd.underlying24 hi hz0 hz1 hz2 rfl (.slice (some ⟨w1.heap.size, 0, none⟩) 0 0) 0 [] rfl (own_builtAt (m := w1.heap.size) (w := w1.setCell ⟨w.heap.size, 7, none⟩ (.slice A1 os.length C1)) (by simp) w.heap.size (Nat.le_trans (Nat.le_of_lt hb1) s1) 5 [] 0 rfl (by unfold maxLen; omega)) .u8 w.heap.size pa ps.length pc ps rfl rfl (p0.out _ (L2.alloc L2.size (.cells #[] 5))) HPN.out (by unfold maxLen; omega) (by omega) (Nat.le_of_lt (HSZ.out (w1.setCell ⟨w.heap.size, 7, none⟩ (.slice A1 os.length C1)) L2.size)) ?_); intro v3 w3 O3 hgrow3; simp only [Nat.zero_add, List.nil_append] at O3; obtain ⟨A2, C2, rfl⟩ := own_slice O3; (have L3 := (L2.alloc L2.size (.cells #[] 5)).grown hgrow3 (Nat.le_of_lt (HSZ.out _ L2.size)) (fun j hj => by cases hj <;> exact Nat.le_trans (Nat.le_of_lt hb1) s1)); (obtain ⟨c3, c4, d4, O4', O4⟩ := own2_facts (m := w1.heap.size) c2 d2 O2 (by simp) (Nat.lt_of_lt_of_le hb2' s1) hgrow3 O3); obtain ⟨⟨q0, q1, q2, q3, q4, q5, q6, q7, q8⟩, qf⟩ := nine_cells c3; have qf8 := qf 8; have L4 := L3.setCell (p := ⟨w.heap.size, 8, none⟩) (Nat.le_refl _) (.slice A2 ps.length C2); (obtain ⟨⟨r0, r1, r2, r3, r4, r5, r6, r7, r8⟩, rf⟩ := nine_cells c4); obtain ⟨⟨t0, t1, t2, t3, t4, t5, t6, t7, t8⟩, tf⟩ := nine_cells d4; have tf0 := tf 0; have tf1 := tf 1; have tf2 := tf 2; have tf3 := tf 3; have tf4 := tf 4; have tf5 := tf 5; have tf6 := tf 6; have tf7 := tf 7; have tf8 := tf 8; clear qf rf tf d1 c1 c2 c2'))
  have c5 := full_setCells d4 [.int .u8 sv, .int .u16 nu, .int .u16 fl, .int .u8 ho, .int .u8 pr, .int .u32 sr, .int .u32 ds, .slice A1 os.length C1, .slice A2 ps.length C2] rfl
  have L5 := below_setCells (w.heap.size + 1) (by omega) [.int .u8 sv, .int .u16 nu, .int .u16 fl, .int .u8 ho, .int .u8 pr, .int .u32 sr, .int .u32 ds, .slice A1 os.length C1, .slice A2 ps.length C2] 0 _ _ (L4.mono (Nat.le_refl w.heap.size))
  have O5 := own_apartN (by decide) [.int .u8 sv, .int .u16 nu, .int .u16 fl, .int .u8 ho, .int .u8 pr, .int .u32 sr, .int .u32 ds, .slice A1 os.length C1, .slice A2 ps.length C2] 0 _ _ O4 d4
  have O5' := own_apartN (by decide) [.int .u8 sv, .int .u16 nu, .int .u16 fl, .int .u8 ho, .int .u8 pr, .int .u32 sr, .int .u32 ds, .slice A1 os.length C1, .slice A2 ps.length C2] 0 _ _ O4' d4
  refine bodyPost_ret (results_cell_row rfl _ _ (w.heap.size + 1) 26 _ (0, 0) _ rfl c5 Tryd.underlying26 rfl Tryd.infoHead) rfl ?_
  exact ⟨_, rfl, A1, C1, A2, C2, rfl, O5', O5, L5⟩
end Go.Proofs.YtjofijigfkkidaaDoor
