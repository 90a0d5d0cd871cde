/- What 'handfast/ip.checkOf', 'headOf' and 'Own' answer. -/
import Derived.Test.YtjofijigfkkidaaDoorIpP
import Derived.Test.YtjofijigfkkidaaDoorMath2
import Derived.Deep.RegionHeld3
import Derived.Laws.ResultCell
namespace Go.Proofs.YtjofijigfkkidaaDoor
open Go.RowKit Go.Shelf
open SumM

/-- The check that a head ought to have. -/
def chkOf (zs : List Int) : Int := 65535 - sumOf ((zs.set 10 0).set 11 0)

set_option maxRecDepth 100000 in
theorem checkOf_any (a : Option Addr) (n c : Nat) (zs : List Int) (hl : zs.length = n) (h12 : 12 ≤ n) (hn : n ≤ 1000000) (w : World) (hR : Row .u8 w.heap.size w a zs) (hnil : a = none → c = 0) :
    Calls Tryd.prog 31 #[.slice a n c] w fun e w' => e = .returned (.int .u16 (chkOf zs)) ∧ Below w.heap.size w w' := by
  have HL := Lib.hid hl
  clear hl
  go_enter Tryd.func31, Tryd.ntmps31
  go_wp2_with fail
  refine (clone_any a n c zs HL.out w hR hnil (by omega)).mono ?_
  rintro e w1 ⟨A, C, rfl, O1, m1⟩
  rw [HL.out] at O1 ⊢
  obtain ⟨g, cap, hv, hg⟩ := own_form O1 (by omega)
  injection hv with hv1 hv2 hv3
  subst hv1 hv3
  go_wp2_with fail
  refine (layCheck_any g n C w.heap.size zs w1 0 (by omega) h12 (by omega) O1).mono ?_
  rintro e w2 ⟨⟨v, rfl⟩, hw2⟩
  have O2 : w2.ownsRow w.heap.size 5 1 (.slice (some ⟨g, 0, none⟩) n C) n (((zs.set 10 0).set 11 0).map (Value.int .u8)) := by rw [hw2]; exact own_store (own_store O1 10 0) 11 0
  have m2 : Below w.heap.size w w2 := by rw [hw2]; exact (m1.setCell (p := ⟨g, 10, none⟩) hg _).setCell (p := ⟨g, 11, none⟩) hg _
  clear hw2
  have hin : In 255 ((zs.set 10 0).set 11 0) := in_set (in_set (row_in hR) 10 0 (by omega)) 11 0 (by omega)
  have hlen : ((zs.set 10 0).set 11 0).length = n := by simp [HL.out]
  go_wp2_with fail
  refine (check_any _ n C ((zs.set 10 0).set 11 0) hlen (by omega) w2 (Row.of_own O2 (fun x hx => wf_u8.2 (hin x hx)))).mono ?_
  rintro e w3 ⟨rfl, m3⟩
  go_wp2
  go_ret
  exact ⟨rfl, m2.trans (m3.mono m2.size)⟩

theorem size_setCells' (b : Nat) (t : TypeId) : ∀ (vs : List Value) (o : Nat) (w : World) (cur : Array Value), w.heap[b]? = some (.cells cur t (0, 0)) → ∃ cur' : Array Value, (w.setCells b o vs).heap[b]? = some (.cells cur' t (0, 0)) ∧ cur'.size = cur.size
  | [], _, _, cur, h => ⟨cur, h, rfl⟩
  | v :: r, o, w, cur, h => by
    obtain ⟨c, h1, h2⟩ := size_setCells' b t r (o + 1) _ _ (heap_setCell_same w b o _ t v h)
    exact ⟨c, h1, h2.trans (Array.size_setIfInBounds ..)⟩
/-- A block whose cells are all stored. -/
theorem full_setCells {w : World} {b : Nat} {cur : Array Value} {t : TypeId} (h : w.heap[b]? = some (.cells cur t (0, 0))) (vs : List Value) (hl : vs.length = cur.size) : (w.setCells b 0 vs).heap[b]? = some (.cells vs.toArray t (0, 0)) := by
  obtain ⟨c, h1, h2⟩ := size_setCells' b t vs 0 w cur h
  obtain ⟨c', h3, h4⟩ := row_setCells h vs (by omega)
  rw [h1] at h3
  injection h3 with h3
  injection h3 with h3
  subst h3
  rw [h1]
  have : c = vs.toArray := by
    apply Array.ext
    · rw [h2, ← hl, List.size_toArray]
    · intro i hi hi'
      have := h4 i (by simpa using hi')
      rw [cell_of_row _ _ _ _ _ _ h1, Array.getElem?_eq_getElem hi] at this
      have h5 := Option.some.inj this
      simpa using h5
  rw [this]
/-- The nine cells of a box of a head. -/
theorem nine_cells {w : World} {b : Nat} {v0 v1 v2 v3 v4 v5 v6 v7 v8 : Value} {t : TypeId} (h : w.heap[b]? = some (.cells #[v0, v1, v2, v3, v4, v5, v6, v7, v8] t (0, 0))) :
    (w.cell? ⟨b, 0, none⟩ = some v0 ∧ w.cell? ⟨b, 1, none⟩ = some v1 ∧ w.cell? ⟨b, 2, none⟩ = some v2 ∧ w.cell? ⟨b, 3, none⟩ = some v3 ∧ w.cell? ⟨b, 4, none⟩ = some v4 ∧ w.cell? ⟨b, 5, none⟩ = some v5 ∧ w.cell? ⟨b, 6, none⟩ = some v6 ∧ w.cell? ⟨b, 7, none⟩ = some v7 ∧ w.cell? ⟨b, 8, none⟩ = some v8) ∧ ∀ j, w.frozen? ⟨b, j, none⟩ = false := by
  refine ⟨⟨?_, ?_, ?_, ?_, ?_, ?_, ?_, ?_, ?_⟩, fun j => by simp [World.frozen?, h]⟩
  all_goals (rw [cell_of_row _ _ _ _ _ _ h]; rfl)
theorem cell_s9 {W : World} {b b' j : Nat} {v v0 v1 v2 v3 v4 v5 v6 v7 v8 : Value} (hne : b ≠ b') (h : W.cell? ⟨b, j, none⟩ = some v) :
    (((((((((W.setCell ⟨b', 0, none⟩ v0).setCell ⟨b', 1, none⟩ v1).setCell ⟨b', 2, none⟩ v2).setCell ⟨b', 3, none⟩ v3).setCell ⟨b', 4, none⟩ v4).setCell ⟨b', 5, none⟩ v5).setCell ⟨b', 6, none⟩ v6).setCell ⟨b', 7, none⟩ v7).setCell ⟨b', 8, none⟩ v8).cell? ⟨b, j, none⟩ = some v := cell_sc (vs := [v0, v1, v2, v3, v4, v5, v6, v7, v8]) hne h
theorem own_apart {w : World} {base : Nat} {e : TypeId} {v : Value} {n : Nat} {xs : List Value} (h : w.ownsRow base e 1 v n xs) {b : Nat} {cur : Array Value} {t : TypeId} {r : Nat × Nat} (hb : w.heap[b]? = some (.cells cur t r)) (ht : t ≠ e) (j : Nat) (u : Value) : (w.setCell ⟨b, j, none⟩ u).ownsRow base e 1 v n xs := by
  refine ⟨h.1, ?_⟩
  rcases h.2 with h' | ⟨g, cap, cur', h1, h2, h3, h4⟩
  · exact .inl h'
  · refine .inr ⟨g, cap, cur', h1, h2, (Below.heap_setCell w _ u g ?_).trans h3, h4⟩
    intro hgb
    rw [hgb] at h3
    rw [show w.heap[b]? = _ from hb] at h3
    injection h3 with h3
    injection h3 with _ e2 _
    exact ht e2
theorem own_apartN {base : Nat} {e : TypeId} {v : Value} {n : Nat} {xs : List Value} {b : Nat} {t : TypeId} (ht : t ≠ e) : ∀ (vs : List Value) (o : Nat) (w : World) (cur : Array Value), w.ownsRow base e 1 v n xs → w.heap[b]? = some (.cells cur t (0, 0)) → (w.setCells b o vs).ownsRow base e 1 v n xs
  | [], _, _, _, h, _ => h
  | u :: r, o, w, cur, h, hb => own_apartN ht r (o + 1) _ _ (own_apart h hb ht o u) (heap_setCell_same w b o cur t u hb)

/-- A head in memory of its own: its two rows lie apart. -/
def HeadRet (sv nu fl ho pr sr ds : Int) (os ps : List Int) (w : World) (v : Value) (w' : World) : Prop :=
  ∃ oa oc pa pc, v = .agg #[.int .u8 sv, .int .u16 nu, .int .u16 fl, .int .u8 ho, .int .u8 pr, .int .u32 sr, .int .u32 ds, .slice oa os.length oc, .slice pa ps.length pc] ∧
    w'.ownsRow w.heap.size 5 1 (.slice oa os.length oc) os.length (os.map (Value.int .u8)) ∧ w'.ownsRow w.heap.size 5 1 (.slice pa ps.length pc) ps.length (ps.map (Value.int .u8)) ∧ Below w.heap.size w w'

theorem Tryd.infoHead : (Tryd.prog.info? 26).map (·.size) = some 9 := by kernel_rfl

set_option maxRecDepth 100000 in
set_option maxHeartbeats 4000000 in
theorem ipOwn_any (sv nu fl ho pr sr ds : Int) (oa : Option Addr) (on oc : Nat) (pa : Option Addr) (pn pc : Nat) (os ps : List Int) (w : World) (hro : Row .u8 w.heap.size w oa os) (hol : os.length = on) (hon : oa = none → oc = 0) (hrp : Row .u8 w.heap.size w pa ps) (hpl : ps.length = pn) (hpn : pa = none → pc = 0) (ho' : on ≤ 1048576) (hp' : pn ≤ 1048576) :
    Calls Tryd.prog 20 #[.agg #[.int .u8 sv, .int .u16 nu, .int .u16 fl, .int .u8 ho, .int .u8 pr, .int .u32 sr, .int .u32 ds, .slice oa on oc, .slice pa pn pc]] w fun e w' => ∃ v, e = .returned v ∧ HeadRet sv nu fl ho pr sr ds os ps w v w' := by
  subst hol hpl
  have L0 : Below w.heap.size w ((w.alloc (.cells #[.int .u8 sv, .int .u16 nu, .int .u16 fl, .int .u8 ho, .int .u8 pr, .int .u32 sr, .int .u32 ds, .slice oa os.length oc, .slice pa ps.length pc] 26)).alloc (.cells #[.int .u8 0, .int .u16 0, .int .u16 0, .int .u8 0, .int .u8 0, .int .u32 0, .int .u32 0, .slice none 0 0, .slice none 0 0] 26)) := ((Below.refl _ w).alloc (Nat.le_refl _) _).alloc (by simp) _
  go_enter Tryd.func20, Tryd.ntmps20
  have bH := heap_alloc_new w (.cells #[.int .u8 sv, .int .u16 nu, .int .u16 fl, .int .u8 ho, .int .u8 pr, .int .u32 sr, .int .u32 ds, .slice oa os.length oc, .slice pa ps.length pc] 26)
  have bR := heap_alloc_new (w.alloc (.cells #[.int .u8 sv, .int .u16 nu, .int .u16 fl, .int .u8 ho, .int .u8 pr, .int .u32 sr, .int .u32 ds, .slice oa os.length oc, .slice pa ps.length pc] 26)) (.cells #[.int .u8 0, .int .u16 0, .int .u16 0, .int .u8 0, .int .u8 0, .int .u32 0, .int .u32 0, .slice none 0 0, .slice none 0 0] 26)
  rw [World.size_alloc] at bR
  have bH2 := (Below.heap_alloc _ (.cells #[.int .u8 0, .int .u16 0, .int .u16 0, .int .u8 0, .int .u8 0, .int .u32 0, .int .u32 0, .slice none 0 0, .slice none 0 0] 26) w.heap.size (by simp)).trans bH
  have hs0 : ((w.alloc (.cells #[.int .u8 sv, .int .u16 nu, .int .u16 fl, .int .u8 ho, .int .u8 pr, .int .u32 sr, .int .u32 ds, .slice oa os.length oc, .slice pa ps.length pc] 26)).alloc (.cells #[.int .u8 0, .int .u16 0, .int .u16 0, .int .u8 0, .int .u8 0, .int .u32 0, .int .u32 0, .slice none 0 0, .slice none 0 0] 26)).heap.size = w.heap.size + 2 := by simp
  go_wp2_with fail
  generalize (w.alloc (.cells #[.int .u8 sv, .int .u16 nu, .int .u16 fl, .int .u8 ho, .int .u8 pr, .int .u32 sr, .int .u32 ds, .slice oa os.length oc, .slice pa ps.length pc] 26)).alloc (.cells #[.int .u8 0, .int .u16 0, .int .u16 0, .int .u8 0, .int .u8 0, .int .u32 0, .int .u32 0, .slice none 0 0, .slice none 0 0] 26) = W0 at *
  refine (clone_any oa os.length oc os rfl W0 (hro.step L0) hon ho').mono ?_
  rintro e w1 ⟨A1, C1, rfl, O1, m1⟩
  have c1 := (m1.block _ (by omega)).trans bH2
  have d1 := (m1.block _ (by omega)).trans bR
  have L1 := L0.trans (m1.mono L0.size)
  have s1 := m1.size
  clear bH bR bH2
  obtain ⟨⟨q0, q1, q2, q3, q4, q5, q6, q7, q8⟩, qf⟩ := nine_cells c1
  have qf7 := qf 7
  have c2 := heap_setCell_same w1 w.heap.size 7 _ _ (.slice A1 os.length C1) c1
  have d2 := (Below.heap_setCell w1 ⟨w.heap.size, 7, none⟩ (.slice A1 os.length C1) (w.heap.size + 1) (by simp)).trans d1
  have L2 := L1.setCell (p := ⟨w.heap.size, 7, none⟩) (Nat.le_refl _) (.slice A1 os.length C1)
  have O2 := own_apart O1 c1 (by decide) 7 (.slice A1 os.length C1)
  go_wp2_with fail
  generalize hW2 : w1.setCell ⟨w.heap.size, 7, none⟩ (.slice A1 os.length C1) = W2 at *
  have s2 : w1.heap.size = W2.heap.size := by rw [← hW2]; simp
  clear hW2 q0 q1 q2 q3 q4 q5 q6 q7 q8 qf qf7 c1 d1 L0 L1 m1 O1
  refine (clone_any pa ps.length pc ps rfl W2 (hrp.step L2) hpn hp').mono ?_
  rintro e w3 ⟨A2, C2, rfl, O3, m3⟩
  have c3 : w3.heap[w.heap.size]? = some (.cells #[.int .u8 sv, .int .u16 nu, .int .u16 fl, .int .u8 ho, .int .u8 pr, .int .u32 sr, .int .u32 ds, .slice A1 os.length C1, .slice pa ps.length pc] 26 (0, 0)) := (m3.block _ (by omega)).trans c2
  have d3 := (m3.block _ (by omega)).trans d2
  have L3 := L2.trans (m3.mono L2.size)
  have s3 := m3.size
  have O3' := own_below O2 m3
  obtain ⟨⟨q0, q1, q2, q3, q4, q5, q6, q7, q8⟩, qf⟩ := nine_cells c3
  have qf8 := qf 8
  have c4 : (w3.setCell ⟨w.heap.size, 8, none⟩ (.slice A2 ps.length C2)).heap[w.heap.size]? = some (.cells #[.int .u8 sv, .int .u16 nu, .int .u16 fl, .int .u8 ho, .int .u8 pr, .int .u32 sr, .int .u32 ds, .slice A1 os.length C1, .slice A2 ps.length C2] 26 (0, 0)) := heap_setCell_same w3 w.heap.size 8 _ _ (.slice A2 ps.length C2) c3
  have d4 := (Below.heap_setCell w3 ⟨w.heap.size, 8, none⟩ (.slice A2 ps.length C2) (w.heap.size + 1) (by simp)).trans d3
  have L4 := L3.setCell (p := ⟨w.heap.size, 8, none⟩) (Nat.le_refl _) (.slice A2 ps.length C2)
  have O4 := own_apart O3 c3 (by decide) 8 (.slice A2 ps.length C2)
  have O4' := own_apart O3' c3 (by decide) 8 (.slice A2 ps.length C2)
  obtain ⟨⟨r0, r1, r2, r3, r4, r5, r6, r7, r8⟩, rf⟩ := nine_cells c4
  obtain ⟨⟨t0, t1, t2, t3, t4, t5, t6, t7, t8⟩, tf⟩ := nine_cells d4
  have tf0 := tf 0
  have tf1 := tf 1
  have tf2 := tf 2
  have tf3 := tf 3
  have tf4 := tf 4
  have tf5 := tf 5
  have tf6 := tf 6
  have tf7 := tf 7
  have tf8 := tf 8
  have c5 := full_setCells d4 [.int .u8 sv, .int .u16 nu, .int .u16 fl, .int .u8 ho, .int .u8 pr, .int .u32 sr, .int .u32 ds, .slice A1 os.length C1, .slice A2 ps.length C2] rfl
  have L5 := below_setCells (w.heap.size + 1) (by omega) [.int .u8 sv, .int .u16 nu, .int .u16 fl, .int .u8 ho, .int .u8 pr, .int .u32 sr, .int .u32 ds, .slice A1 os.length C1, .slice A2 ps.length C2] 0 w _ L4
  have O5 := own_apartN (by decide) [.int .u8 sv, .int .u16 nu, .int .u16 fl, .int .u8 ho, .int .u8 pr, .int .u32 sr, .int .u32 ds, .slice A1 os.length C1, .slice A2 ps.length C2] 0 _ _ O4 d4
  have O5' := own_apartN (by decide) [.int .u8 sv, .int .u16 nu, .int .u16 fl, .int .u8 ho, .int .u8 pr, .int .u32 sr, .int .u32 ds, .slice A1 os.length C1, .slice A2 ps.length C2] 0 _ _ O4' d4
  have C5 := Lib.hid c5
  have L5 := Lib.hid L5
  have O5 := Lib.hid O5
  have O5' := Lib.hid O5'
  clear c5
  go_wp2
  refine bodyPost_ret (results_cell_row rfl _ _ (w.heap.size + 1) 26 _ (0, 0) _ rfl C5.out Tryd.underlying26 rfl Tryd.infoHead) rfl ?_
  exact ⟨_, rfl, A1, C1, A2, C2, rfl, own_base O5'.out (by omega), own_base O5.out (by omega), L5.out⟩

theorem wrap_u8 (x : Int) : IntKind.u8.wrap x = x % 256 := by simp [IntKind.wrap, IntKind.bits, IntKind.signed]
theorem wrap_u16 (x : Int) : IntKind.u16.wrap x = x % 65536 := by simp [IntKind.wrap, IntKind.bits, IntKind.signed]

set_option maxRecDepth 100000 in
set_option maxHeartbeats 8000000 in
theorem headOf_any (m0 m1 m2 m3 m4 m5 m6 m7 m8 m9 : Int) (oa : Option Addr) (on oc : Nat) (pa : Option Addr) (pn pc : Nat) (os ps : List Int) (w : World) (hro : Row .u8 w.heap.size w oa os) (hol : os.length = on) (hon : oa = none → oc = 0) (hrp : Row .u8 w.heap.size w pa ps) (hpl : ps.length = pn) (hpn : pa = none → pc = 0) (ho' : on ≤ 1048576) (hp' : pn ≤ 1048576) :
    Calls Tryd.prog 32 #[.agg #[.int .u32 m0, .int .u32 m1, .int .u32 m2, .int .u32 m3, .int .u32 m4, .int .u32 m5, .int .u32 m6, .int .u32 m7, .int .u32 m8, .int .u32 m9], .slice oa on oc, .slice pa pn pc] w fun e w' => ∃ v, e = .returned v ∧ HeadRet (m1 % 256) (m3 % 65536) (m4 % 65536) (m5 % 256) (m6 % 256) m8 m9 os ps w v w' := by
  subst hol hpl
  have L0 : Below w.heap.size w ((w.alloc (.cells #[.int .u32 m0, .int .u32 m1, .int .u32 m2, .int .u32 m3, .int .u32 m4, .int .u32 m5, .int .u32 m6, .int .u32 m7, .int .u32 m8, .int .u32 m9] 50)).alloc (.cells #[.int .u8 0, .int .u16 0, .int .u16 0, .int .u8 0, .int .u8 0, .int .u32 0, .int .u32 0, .slice none 0 0, .slice none 0 0] 26)) := ((Below.refl _ w).alloc (Nat.le_refl _) _).alloc (by simp) _
  have bH := heap_alloc_new w (.cells #[.int .u32 m0, .int .u32 m1, .int .u32 m2, .int .u32 m3, .int .u32 m4, .int .u32 m5, .int .u32 m6, .int .u32 m7, .int .u32 m8, .int .u32 m9] 50)
  have hZ0 := heap_alloc_new (w.alloc (.cells #[.int .u32 m0, .int .u32 m1, .int .u32 m2, .int .u32 m3, .int .u32 m4, .int .u32 m5, .int .u32 m6, .int .u32 m7, .int .u32 m8, .int .u32 m9] 50)) (.cells #[.int .u8 0, .int .u16 0, .int .u16 0, .int .u8 0, .int .u8 0, .int .u32 0, .int .u32 0, .slice none 0 0, .slice none 0 0] 26)
  rw [World.size_alloc] at hZ0
  have hB0 := (Below.heap_alloc _ (.cells #[.int .u8 0, .int .u16 0, .int .u16 0, .int .u8 0, .int .u8 0, .int .u32 0, .int .u32 0, .slice none 0 0, .slice none 0 0] 26) w.heap.size (by simp)).trans bH
  have hs0 : ((w.alloc (.cells #[.int .u32 m0, .int .u32 m1, .int .u32 m2, .int .u32 m3, .int .u32 m4, .int .u32 m5, .int .u32 m6, .int .u32 m7, .int .u32 m8, .int .u32 m9] 50)).alloc (.cells #[.int .u8 0, .int .u16 0, .int .u16 0, .int .u8 0, .int .u8 0, .int .u32 0, .int .u32 0, .slice none 0 0, .slice none 0 0] 26)).heap.size = w.heap.size + 2 := by simp
  clear bH
  go_enter Tryd.func32, Tryd.ntmps32
  go_wp2_with fail
  generalize (w.alloc (.cells #[.int .u32 m0, .int .u32 m1, .int .u32 m2, .int .u32 m3, .int .u32 m4, .int .u32 m5, .int .u32 m6, .int .u32 m7, .int .u32 m8, .int .u32 m9] 50)).alloc (.cells #[.int .u8 0, .int .u16 0, .int .u16 0, .int .u8 0, .int .u8 0, .int .u32 0, .int .u32 0, .slice none 0 0, .slice none 0 0] 26) = W0 at *
  have R00 := hro.step L0
  have R0 : Row .u8 W0.drew.heap.size W0.drew oa os := R00
  have P00 := hrp.step L0
  have P0 : Row .u8 W0.drew.heap.size W0.drew pa ps := P00
  have c1 : W0.cell? ⟨w.heap.size, 1, none⟩ = some (.int .u32 m1) := by rw [cell_of_row _ _ _ _ _ _ hB0]; rfl
  have c3 : W0.cell? ⟨w.heap.size, 3, none⟩ = some (.int .u32 m3) := by rw [cell_of_row _ _ _ _ _ _ hB0]; rfl
  have c4 : W0.cell? ⟨w.heap.size, 4, none⟩ = some (.int .u32 m4) := by rw [cell_of_row _ _ _ _ _ _ hB0]; rfl
  have c5 : W0.cell? ⟨w.heap.size, 5, none⟩ = some (.int .u32 m5) := by rw [cell_of_row _ _ _ _ _ _ hB0]; rfl
  have c6 : W0.cell? ⟨w.heap.size, 6, none⟩ = some (.int .u32 m6) := by rw [cell_of_row _ _ _ _ _ _ hB0]; rfl
  have c8 : W0.cell? ⟨w.heap.size, 8, none⟩ = some (.int .u32 m8) := by rw [cell_of_row _ _ _ _ _ _ hB0]; rfl
  have c9 : W0.cell? ⟨w.heap.size, 9, none⟩ = some (.int .u32 m9) := by rw [cell_of_row _ _ _ _ _ _ hB0]; rfl
  have e1 : W0.drew.cell? ⟨w.heap.size, 1, none⟩ = some (.int .u32 m1) := c1
  have e3 : W0.drew.cell? ⟨w.heap.size, 3, none⟩ = some (.int .u32 m3) := c3
  have e4 : W0.drew.cell? ⟨w.heap.size, 4, none⟩ = some (.int .u32 m4) := c4
  have e5 : W0.drew.cell? ⟨w.heap.size, 5, none⟩ = some (.int .u32 m5) := c5
  have e6 : W0.drew.cell? ⟨w.heap.size, 6, none⟩ = some (.int .u32 m6) := c6
  have e8 : W0.drew.cell? ⟨w.heap.size, 8, none⟩ = some (.int .u32 m8) := c8
  have e9 : W0.drew.cell? ⟨w.heap.size, 9, none⟩ = some (.int .u32 m9) := c9
  go_region_held3 (fun w' => w'.cell? ⟨w.heap.size, 1, none⟩ = some (.int .u32 m1) ∧ w'.cell? ⟨w.heap.size, 3, none⟩ = some (.int .u32 m3) ∧ w'.cell? ⟨w.heap.size, 4, none⟩ = some (.int .u32 m4) ∧ w'.cell? ⟨w.heap.size, 5, none⟩ = some (.int .u32 m5) ∧ w'.cell? ⟨w.heap.size, 6, none⟩ = some (.int .u32 m6) ∧ w'.cell? ⟨w.heap.size, 8, none⟩ = some (.int .u32 m8) ∧ w'.cell? ⟨w.heap.size, 9, none⟩ = some (.int .u32 m9)) (first | with_reducible exact ⟨cell_s9 hne2 g1, cell_s9 hne2 g3, cell_s9 hne2 g4, cell_s9 hne2 g5, cell_s9 hne2 g6, cell_s9 hne2 g8, cell_s9 hne2 g9⟩ | with_reducible exact ⟨g1, g3, g4, g5, g6, g8, g9⟩ | with_reducible exact ⟨d1, d3, d4, d5, d6, d8, d9⟩ | with_reducible exact ⟨c1, c3, c4, c5, c6, c8, c9⟩ | with_reducible exact ⟨e1, e3, e4, e5, e6, e8, e9⟩)
    (first
      | (go_at_call_of 36 (Value.slice oa os.length oc); refine (clone_any oa os.length oc os rfl W0.drew R0 hon ho').mono ?_; rintro e w1o ⟨A1, C1, rfl, O1, k1'⟩; have k1 : Below W0.heap.size W0 w1o := below_drew k1'; have hB1 := (k1.block w.heap.size (by omega)).trans hB0; have hZ1 := (k1.block (w.heap.size + 1) (by omega)).trans hZ0; have L1 := L0.trans (k1.mono L0.size); have R1 := hro.step L1; have P1 := hrp.step L1; have s1 := k1.size; have d1 := (k1.cell (p := ⟨w.heap.size, 1, none⟩) (by show w.heap.size < W0.heap.size; omega)).trans c1; have d3 := (k1.cell (p := ⟨w.heap.size, 3, none⟩) (by show w.heap.size < W0.heap.size; omega)).trans c3; have d4 := (k1.cell (p := ⟨w.heap.size, 4, none⟩) (by show w.heap.size < W0.heap.size; omega)).trans c4; have d5 := (k1.cell (p := ⟨w.heap.size, 5, none⟩) (by show w.heap.size < W0.heap.size; omega)).trans c5; have d6 := (k1.cell (p := ⟨w.heap.size, 6, none⟩) (by show w.heap.size < W0.heap.size; omega)).trans c6; have d8 := (k1.cell (p := ⟨w.heap.size, 8, none⟩) (by show w.heap.size < W0.heap.size; omega)).trans c8; have d9 := (k1.cell (p := ⟨w.heap.size, 9, none⟩) (by show w.heap.size < W0.heap.size; omega)).trans c9; skip)
      | (go_at_call_of 36 (Value.slice pa ps.length pc); refine (clone_any pa ps.length pc ps rfl w1o P1 hpn hp').mono ?_; rintro e w2 ⟨A2, C2, rfl, O2, k2⟩; have hZ2 := (k2.block (w.heap.size + 1) (by omega)).trans hZ1; have L2 := L1.trans (k2.mono L1.size); have O1' := own_below O1 k2; obtain ⟨⟨z0, z1, z2, z3, z4, z5, z6, z7, z8⟩, zf⟩ := nine_cells hZ2; have y0 := zf 0; have y1 := zf 1; have y2 := zf 2; have y3 := zf 3; have y4 := zf 4; have y5 := zf 5; have y6 := zf 6; have y7 := zf 7; have y8 := zf 8; have hne2 : w.heap.size ≠ w.heap.size + 1 := (by omega); have g1 := (k2.cell (p := ⟨w.heap.size, 1, none⟩) (by show w.heap.size < w1o.heap.size; omega)).trans d1; have g3 := (k2.cell (p := ⟨w.heap.size, 3, none⟩) (by show w.heap.size < w1o.heap.size; omega)).trans d3; have g4 := (k2.cell (p := ⟨w.heap.size, 4, none⟩) (by show w.heap.size < w1o.heap.size; omega)).trans d4; have g5 := (k2.cell (p := ⟨w.heap.size, 5, none⟩) (by show w.heap.size < w1o.heap.size; omega)).trans d5; have g6 := (k2.cell (p := ⟨w.heap.size, 6, none⟩) (by show w.heap.size < w1o.heap.size; omega)).trans d6; have g8 := (k2.cell (p := ⟨w.heap.size, 8, none⟩) (by show w.heap.size < w1o.heap.size; omega)).trans d8; have g9 := (k2.cell (p := ⟨w.heap.size, 9, none⟩) (by show w.heap.size < w1o.heap.size; omega)).trans d9; skip))
  all_goals
    clear z0 z1 z2 z3 z4 z5 z6 z7 z8 y0 y1 y2 y3 y4 y5 y6 y7 y8 zf
  · have C5 := Lib.hid (full_setCells hZ2 [.int .u8 (IntKind.u8.wrap m1), .int .u16 (IntKind.u16.wrap m3), .int .u16 (IntKind.u16.wrap m4), .int .u8 (IntKind.u8.wrap m5), .int .u8 (IntKind.u8.wrap m6), .int .u32 m8, .int .u32 m9, .slice A1 os.length C1, .slice A2 ps.length C2] rfl)
    have L5 := Lib.hid (below_setCells (w.heap.size + 1) (by omega) [.int .u8 (IntKind.u8.wrap m1), .int .u16 (IntKind.u16.wrap m3), .int .u16 (IntKind.u16.wrap m4), .int .u8 (IntKind.u8.wrap m5), .int .u8 (IntKind.u8.wrap m6), .int .u32 m8, .int .u32 m9, .slice A1 os.length C1, .slice A2 ps.length C2] 0 w _ L2)
    have O5 := Lib.hid (own_apartN (by decide) [.int .u8 (IntKind.u8.wrap m1), .int .u16 (IntKind.u16.wrap m3), .int .u16 (IntKind.u16.wrap m4), .int .u8 (IntKind.u8.wrap m5), .int .u8 (IntKind.u8.wrap m6), .int .u32 m8, .int .u32 m9, .slice A1 os.length C1, .slice A2 ps.length C2] 0 _ _ O2 hZ2)
    have O5' := Lib.hid (own_apartN (by decide) [.int .u8 (IntKind.u8.wrap m1), .int .u16 (IntKind.u16.wrap m3), .int .u16 (IntKind.u16.wrap m4), .int .u8 (IntKind.u8.wrap m5), .int .u8 (IntKind.u8.wrap m6), .int .u32 m8, .int .u32 m9, .slice A1 os.length C1, .slice A2 ps.length C2] 0 _ _ O1' hZ2)
    go_wp2
    refine bodyPost_ret (results_cell_row rfl _ _ (w.heap.size + 1) 26 _ (0, 0) _ rfl C5.out Tryd.underlying26 rfl Tryd.infoHead) rfl ?_
    refine ⟨_, rfl, A1, C1, A2, C2, ?_, own_base O5'.out (by show w.heap.size ≤ W0.heap.size; omega), own_base O5.out (by omega), L5.out⟩
    rw [wrap_u8, wrap_u8, wrap_u8, wrap_u16, wrap_u16]
end Go.Proofs.YtjofijigfkkidaaDoor
