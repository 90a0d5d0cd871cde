/- Package packet: what Parse answers. -/
import Derived.Test.YtnncmcfonkhckaaDoorPkG
import Derived.Test.YtnncmcfonkhckaaDoorPkF
namespace Go.Proofs.YtnncmcfonkhckaaDoor
open Go.RowKit Go.Shelf
open SumM

attribute [local go_sem] Oper.semAt_some

/-- What lies in memory while the looks come, b being the first block of Parse's own, y what drop says. -/
structure PkBase (bs : List Int) (a : Option Addr) (len cap : Nat) (w : World) (y : Int) (W : World) : Prop where
  lo : Below w.heap.size w W
  sz : w.heap.size + 4 ≤ W.heap.size
  dr : W.heap[w.heap.size + 1]? = some (.cells #[.int .u8 y] 5 (0, 0))
  bx : W.heap[w.heap.size + 2]? = some (.cells #[.slice a len cap] 22 (0, 0))
  px : W.heap[w.heap.size + 3]? = some (.cells #[.pointer (some ⟨w.heap.size, 0, none⟩)] 54 (0, 0))
/-- The head that the looks share, once it is read. -/
def PkHead (bs : List Int) (B hb : Nat) (W : World) : Prop :=
  whyOf bs = 0 ∧ B ≤ hb ∧ ∃ oa on oc pa pc, W.heap[hb]? = some (.cells #[.int .u8 (segAt bs 1 % 256), .int .u16 (segAt bs 3 % 65536), .int .u16 (segAt bs 4 % 65536), .int .u8 (segAt bs 5 % 256), .int .u8 (segAt bs 6 % 256), .int .u32 (segAt bs 8), .int .u32 (segAt bs 9), .slice oa on oc, .slice pa (bs.drop (hlOf bs)).length pc] 42 (0, 0)) ∧
    W.ownsRow B 5 1 (.slice pa (bs.drop (hlOf bs)).length pc) (bs.drop (hlOf bs)).length ((bs.drop (hlOf bs)).map (Value.int .u8))
/-- What holds between two looks. -/
def PkInv (bs : List Int) (a : Option Addr) (len cap : Nat) (w : World) (pre : List (Nat × Nat)) (W : World) : Prop :=
  PkBase bs a len cap w 0 W ∧
  ((pre = [] ∧ W.heap[w.heap.size]? = some (.cells #[.int .u32 0, .int .u32 0, .int .u16 0, .int .u16 0, .int .u8 0, .slice none 0 0] 28 (0, 0))) ∨
   (∃ hb, pre = [(0, hb)] ∧ W.heap[w.heap.size]? = some (.cells #[.int .u32 0, .int .u32 0, .int .u16 0, .int .u16 0, .int .u8 0, .slice none 0 0] 28 (0, 0)) ∧ PkHead bs (w.heap.size + 4) hb W) ∨
   (∃ hb, pre = [(0, hb), (1, hb)] ∧ W.heap[w.heap.size]? = some (.cells #[.int .u32 0, .int .u32 0, .int .u16 0, .int .u16 0, .int .u8 0, .slice none 0 0] 28 (0, 0)) ∧ PkHead bs (w.heap.size + 4) hb W ∧ segAt bs 6 % 256 = 6) ∨
   (∃ hb, pre = [(0, hb), (1, hb), (2, hb)] ∧ pkwhy bs = 0 ∧ W.heap[w.heap.size]? = some (.cells #[.int .u32 (segAt bs 8), .int .u32 (segAt bs 9), .int .u16 (wordAt (bs.drop (hlOf bs)) 0), .int .u16 (wordAt (bs.drop (hlOf bs)) 1), .int .u8 ((bs.drop (hlOf bs))[13]?.getD 0), .slice none 0 0] 28 (0, 0))))
/-- What holds behind a look that told a reason. -/
def PkOut (bs : List Int) (a : Option Addr) (len cap : Nat) (w : World) (c : Code) (_ : List (Nat × Nat)) (W : World) : Prop :=
  c = .goto 0 ∧ pkwhy bs ≠ 0 ∧ PkBase bs a len cap w (pkwhy bs) W ∧ ∃ z0 z1 z2 z3 z4 : Int, W.heap[w.heap.size]? = some (.cells #[.int .u32 z0, .int .u32 z1, .int .u16 z2, .int .u16 z3, .int .u8 z4, .slice none 0 0] 28 (0, 0))

theorem blk_new {W : World} {k : Nat} {o : Obj} (h : W.heap[k]? = some o) (o' : Obj) : (W.alloc o').heap[k]? = some o :=
  (Below.heap_alloc _ _ _ (Array.getElem?_eq_some_iff.1 h).1).trans h
theorem blk_turn {W : World} {k l : Nat} {cs : Array Value} {t : TypeId} {fr : Nat × Nat} {o : Obj} (h : W.heap[k]? = some (.cells cs t fr)) (hl : W.heap[l]? = some o) (hc : o.isCells = false) (o' : Obj) : (W.putObj l o').heap[k]? = some (.cells cs t fr) := by
  refine (World.putObj_heap_other ?_).trans h
  intro e
  subst e
  rw [h] at hl
  cases hl
  cases hc
theorem PkBase.new {bs : List Int} {a : Option Addr} {len cap : Nat} {w W : World} {y : Int} (h : PkBase bs a len cap w y W) (o : Obj) : PkBase bs a len cap w y (W.alloc o) :=
  ⟨h.lo.alloc h.lo.size o, by rw [World.size_alloc]; have := h.sz; omega, blk_new h.dr o, blk_new h.bx o, blk_new h.px o⟩
theorem PkBase.turn {bs : List Int} {a : Option Addr} {len cap : Nat} {w W : World} {y : Int} (h : PkBase bs a len cap w y W) {l : Nat} {o : Obj} (o' : Obj) (hB : w.heap.size + 4 ≤ l) (hl : W.heap[l]? = some o) (hc : o.isCells = false) : PkBase bs a len cap w y (W.putObj l o') :=
  ⟨h.lo.trans ⟨rfl, rfl, rfl, by simp [World.putObj], fun k hk => World.putObj_heap_other (by omega)⟩, by have := h.sz; simpa [World.putObj] using this, blk_turn h.dr hl hc o', blk_turn h.bx hl hc o', blk_turn h.px hl hc o'⟩
theorem PkHead.new {bs : List Int} {B hb : Nat} {W : World} (h : PkHead bs B hb W) (o : Obj) : PkHead bs B hb (W.alloc o) :=
  ⟨h.1, h.2.1, let ⟨oa, on, oc, pa, pc, h1, h2⟩ := h.2.2; ⟨oa, on, oc, pa, pc, blk_new h1 o, h2.alloc o⟩⟩
theorem PkHead.turn {bs : List Int} {B hb : Nat} {W : World} (h : PkHead bs B hb W) {l : Nat} {o : Obj} (o' : Obj) (hl : W.heap[l]? = some o) (hc : o.isCells = false) : PkHead bs B hb (W.putObj l o') :=
  ⟨h.1, h.2.1, let ⟨oa, on, oc, pa, pc, h1, h2⟩ := h.2.2; ⟨oa, on, oc, pa, pc, blk_turn h1 hl hc o', ownsRow_putObj h2 o' hl hc⟩⟩
theorem pkInv_abide (bs : List Int) (a : Option Addr) (len cap : Nat) (w : World) (B : Nat) (hB : w.heap.size + 4 ≤ B) : Abide3 B (PkInv bs a len cap w) where
  new := by
    rintro pre W o ⟨h, k⟩
    refine ⟨h.new o, ?_⟩
    rcases k with ⟨k1, k2⟩ | ⟨hb, k1, k2, k3⟩ | ⟨hb, k1, k2, k3, k4⟩ | ⟨hb, k1, k2, k3⟩
    · exact .inl ⟨k1, blk_new k2 o⟩
    · exact .inr (.inl ⟨hb, k1, blk_new k2 o, k3.new o⟩)
    · exact .inr (.inr (.inl ⟨hb, k1, blk_new k2 o, k3.new o, k4⟩))
    · exact .inr (.inr (.inr ⟨hb, k1, k2, blk_new k3 o⟩))
  turn := by
    rintro pre W l o o' ⟨h, k⟩ hl ho hc
    refine ⟨h.turn o' (by omega) ho hc, ?_⟩
    rcases k with ⟨k1, k2⟩ | ⟨hb, k1, k2, k3⟩ | ⟨hb, k1, k2, k3, k4⟩ | ⟨hb, k1, k2, k3⟩
    · exact .inl ⟨k1, blk_turn k2 ho hc o'⟩
    · exact .inr (.inl ⟨hb, k1, blk_turn k2 ho hc o', k3.turn o' ho hc⟩)
    · exact .inr (.inr (.inl ⟨hb, k1, blk_turn k2 ho hc o', k3.turn o' ho hc, k4⟩))
    · exact .inr (.inr (.inr ⟨hb, k1, k2, blk_turn k3 ho hc o'⟩))
theorem pkOut_abide (bs : List Int) (a : Option Addr) (len cap : Nat) (w : World) (B : Nat) (hB : w.heap.size + 4 ≤ B) (c : Code) : Abide3 B (PkOut bs a len cap w c) where
  new := by
    rintro pre W o ⟨h1, h2, h3, z0, z1, z2, z3, z4, h4⟩
    exact ⟨h1, h2, h3.new o, z0, z1, z2, z3, z4, blk_new h4 o⟩
  turn := by
    rintro pre W l o o' ⟨h1, h2, h3, z0, z1, z2, z3, z4, h4⟩ hl ho hc
    exact ⟨h1, h2, h3.turn o' (by omega) ho hc, z0, z1, z2, z3, z4, blk_turn h4 ho hc o'⟩

theorem setCells_other {b k : Nat} (hk : k ≠ b) : ∀ (vs : List Value) (o : Nat) (W : World), (W.setCells b o vs).heap[k]? = W.heap[k]?
  | [], _, _ => rfl
  | v :: r, o, W => (setCells_other hk r (o + 1) _).trans (Below.heap_setCell W ⟨b, o, none⟩ v k hk)
theorem pk_five {W : World} {b : Nat} {t : TypeId} {c0 c1 c2 c3 c4 c5 : Value} (h : W.heap[b]? = some (.cells #[c0, c1, c2, c3, c4, c5] t (0, 0))) (v0 v1 v2 v3 v4 : Value) : (W.setCells b 0 [v0, v1, v2, v3, v4]).heap[b]? = some (.cells #[v0, v1, v2, v3, v4, c5] t (0, 0)) := by
  have h5 := heap_setCell_same _ b 4 _ _ v4 (heap_setCell_same _ b 3 _ _ v3 (heap_setCell_same _ b 2 _ _ v2 (heap_setCell_same _ b 1 _ _ v1 (heap_setCell_same W b 0 _ _ v0 h))))
  simpa [World.setCells] using h5
theorem PkBase.drop {bs : List Int} {a : Option Addr} {len cap : Nat} {w W : World} {y : Int} (h : PkBase bs a len cap w y W) (y' : Int) : PkBase bs a len cap w y' (W.setCell ⟨w.heap.size + 1, 0, none⟩ (.int .u8 y')) :=
  ⟨h.lo.setCell (p := ⟨w.heap.size + 1, 0, none⟩) (by simp) _, by rw [World.size_setCell]; exact h.sz, by have := heap_setCell_same W (w.heap.size + 1) 0 _ _ (.int .u8 y') h.dr; simpa using this,
    (Below.heap_setCell W ⟨w.heap.size + 1, 0, none⟩ _ _ (by simp)).trans h.bx, (Below.heap_setCell W ⟨w.heap.size + 1, 0, none⟩ _ _ (by simp)).trans h.px⟩
/-- What lies in memory lies there still, when of it just the block b may have turned. -/
theorem PkBase.kept {bs : List Int} {a : Option Addr} {len cap : Nat} {w W W2 : World} {y : Int} (h : PkBase bs a len cap w y W) (lo : Below w.heap.size W W2) (hk : ∀ k, w.heap.size < k → k < w.heap.size + 4 → W2.heap[k]? = W.heap[k]?) : PkBase bs a len cap w y W2 :=
  ⟨h.lo.trans lo, Nat.le_trans h.sz lo.size, (hk _ (by omega) (by omega)).trans h.dr, (hk _ (by omega) (by omega)).trans h.bx, (hk _ (by omega) (by omega)).trans h.px⟩
theorem keeps_below {B : Nat} {W W' : World} (m : Below W.heap.size W W') : KeepsFrom B W W' :=
  ⟨m.size, fun k _ _ hk _ => (m.block k (Array.getElem?_eq_some_iff.1 hk).1).trans hk⟩

theorem cell_s6d {W : World} {b b' j : Nat} {v v0 v1 v2 v3 v4 v5 : Value} (hne : b ≠ b') (h : W.cell? ⟨b, j, none⟩ = some v) :
    ((((((W.setCell ⟨b', 0, none⟩ v0).setCell ⟨b', 1, none⟩ v1).setCell ⟨b', 2, none⟩ v2).setCell ⟨b', 3, none⟩ v3).setCell ⟨b', 4, none⟩ v4).setCell ⟨b', 5, none⟩ v5).drew.cell? ⟨b, j, none⟩ = some v := by
  have key : ∀ (X : World) (p : Addr), X.drew.cell? p = X.cell? p := fun _ _ => rfl
  rw [key]
  exact cell_s6 hne h
theorem cell_s7d {W : World} {b b' j : Nat} {v v' v0 v1 v2 v3 v4 v5 : Value} (hne : b ≠ b') (h : W.cell? ⟨b, j, none⟩ = some v) :
    (((((((W.setCell ⟨b', 0, none⟩ v0).setCell ⟨b', 1, none⟩ v1).setCell ⟨b', 2, none⟩ v2).setCell ⟨b', 3, none⟩ v3).setCell ⟨b', 4, none⟩ v4).setCell ⟨b', 5, none⟩ v5).setCell ⟨b, j, none⟩ v').drew.cell? ⟨b, j, none⟩ = some v' := by
  have key : ∀ (X : World) (p : Addr), X.drew.cell? p = X.cell? p := fun _ _ => rfl
  rw [key]
  exact World.cell?_setCell_same _ _ _ (cell_s6 hne h)
theorem load_u8 (w : World) (g : Nat) (y : Int) (h : w.cell? ⟨g, 0, none⟩ = some (.int .u8 y)) : (loadVar 5 ⟨g, 0, none⟩).run Tryd.prog w = .ok (.int .u8 y) w := by
  simp [loadVar, go_sem, h]
theorem results_pk2 {fn : Func} {p u : Tmp} (h : fn.results = #[.cell p 28, .cell u 5]) (tmps : Array Value) (w : World) (g g' : Nat) (cs : Array Value) (fr : Nat × Nat) (y : Int)
    (hp : tmps.getD p undef = .pointer (some ⟨g, 0, none⟩)) (hg : w.heap[g]? = some (.cells cs 28 fr)) (h9 : cs.size = 6) (hu : tmps.getD u undef = .pointer (some ⟨g', 0, none⟩)) (hg' : w.cell? ⟨g', 0, none⟩ = some (.int .u8 y)) :
    (results fn tmps).run Tryd.prog w = .ok (.tuple #[.agg cs, .int .u8 y]) w := by
  have e1 := run_loadVar_row w g 28 28 cs fr _ hg Tryd.underlying28 rfl (by rw [h9]; exact Tryd.infoPk)
  have e2 := load_u8 w g' y hg'
  have hp' : tmps[p]?.getD undef = .pointer (some ⟨g, 0, none⟩) := by simpa using hp
  have hu' : tmps[u]?.getD undef = .pointer (some ⟨g', 0, none⟩) := by simpa using hu
  simp [results, h, hp', hu', asAddr, e1, e2, Sem.run_bind, Result.andThen]

set_option maxRecDepth 100000 in
set_option maxHeartbeats 8000000 in
theorem pkParse_in (n : Nat) (hn : 4 ≤ n) (a : Option Addr) (len cap : Nat) (bs : List Int) (hlen : bs.length = len) (hlc : len ≤ cap) (hc : cap ≤ 9223372036854775807) (hln : len ≤ 1000000) (w : World) (hg : 0 < w.heap.size) (hW : Wid w) (hR : Row .u8 w.heap.size w a bs) :
    CallsIn Fence.wide n Tryd.prog 8 #[.slice a len cap] w (PkParseRet bs w) := by
  have h1n : 1 ≤ n := by omega
  have HI := Lib.hid (row_in hR)
  have HL := Lib.hid hlen
  have HLN := Lib.hid (And.intro hln (And.intro hlc hc))
  have HGW := Lib.hid (fun W (m : Below w.heap.size w W) => show 0 < W.heap.size ∧ Wid W from ⟨Nat.lt_of_lt_of_le hg m.size, fun i hi => (m.cell (p := ⟨0, i, none⟩) hg).trans (hW i hi)⟩)
  have HR := Lib.hid hR
  clear hlen hlc hc hln hg hW hR
  refine callsIn_of_wp_marks Tryd.func8 rfl trivial ?_ rfl
  simp only [Tryd.ntmps8, List.size_toArray, List.length_cons, List.length_nil, Nat.reduceAdd, Nat.reduceSub, Array.replicate_succ, Array.replicate_zero, List.push_toArray, List.append_toArray, List.nil_append, List.cons_append]
  have dP := blk_new (heap_alloc_new w (.cells #[.int .u32 0, .int .u32 0, .int .u16 0, .int .u16 0, .int .u8 0, .slice none 0 0] 28)) (.cells #[.int .u8 0] 5)
  have dD := heap_alloc_new (w.alloc (.cells #[.int .u32 0, .int .u32 0, .int .u16 0, .int .u16 0, .int .u8 0, .slice none 0 0] 28)) (.cells #[.int .u8 0] 5)
  rw [World.size_alloc] at dD
  have L0 : Below w.heap.size w ((w.alloc (.cells #[.int .u32 0, .int .u32 0, .int .u16 0, .int .u16 0, .int .u8 0, .slice none 0 0] 28)).alloc (.cells #[.int .u8 0] 5)) := ((Below.refl _ w).alloc (Nat.le_refl _) _).alloc (by simp) _
  have hs0 : ((w.alloc (.cells #[.int .u32 0, .int .u32 0, .int .u16 0, .int .u16 0, .int .u8 0, .slice none 0 0] 28)).alloc (.cells #[.int .u8 0] 5)).heap.size = w.heap.size + 2 := by simp
  gi_wp2
  rw [wpIn_wide]
  refine wp_scope_jumps 0 (fun a' w' => ∃ (D : Nat) (z0 z1 z2 z3 z4 : Int) (u0 u1 u4 u5 u6 u7 u8 u9 u10 u11 u12 u13 u14 u15 u16 u17 : Value), a' = { tmps := #[u0, u1, .pointer (some ⟨w.heap.size, 0, none⟩), .pointer (some ⟨w.heap.size + 1, 0, none⟩), u4, u5, u6, u7, u8, u9, u10, u11, u12, u13, u14, u15, u16, u17], defers := [{ target := .collected D, args := #[] }] } ∧ pkwhy bs ≠ 0 ∧ PkBase bs a len cap w (pkwhy bs) w' ∧ w'.heap[w.heap.size]? = some (.cells #[.int .u32 z0, .int .u32 z1, .int .u16 z2, .int .u16 z3, .int .u8 z4, .slice none 0 0] 28 (0, 0)) ∧ w'.heap[D]? = some (.deferred (some [])) ∧ w.heap.size + 4 ≤ D) (fun _ _ => 0) rfl ?first ?pass
  case pass =>
    rintro a' w' ⟨D, z0, z1, z2, z3, z4, u0, u1, u4, u5, u6, u7, u8, u9, u10, u11, u12, u13, u14, u15, u16, u17, rfl, hy, hb, hd, hK, hD⟩
    obtain ⟨q0, q1, q2, q3, q4, q5⟩ := pk_cells _ _ _ _ _ _ _ _ hd
    have f0 := pk_frozen hd 0
    have f1 := pk_frozen hd 1
    have f2 := pk_frozen hd 2
    have f3 := pk_frozen hd 3
    have f4 := pk_frozen hd 4
    have f5 := pk_frozen hd 5
    have c0 : w'.cell? ⟨w.heap.size + 1, 0, none⟩ = some (.int .u8 (pkwhy bs)) := by rw [cell_of_row _ _ _ _ _ _ hb.dr]; rfl
    have g0 : w'.frozen? ⟨w.heap.size + 1, 0, none⟩ = false := by simp [World.frozen?, hb.dr]
    have HY := Lib.hid hy
    have HB := Lib.hid hb
    have HD := Lib.hid hd
    have HK := Lib.hid hK
    have HDD := Lib.hid hD
    clear hy hb hd hK hD dP dD L0 hs0
    have hne : w.heap.size + 1 ≠ w.heap.size := by omega
    generalize hYY : pkwhy bs = y at *
    have HYY := Lib.hid hYY
    clear hYY
    have c1 : w'.drew.cell? ⟨w.heap.size + 1, 0, none⟩ = some (.int .u8 y) := c0
    go_wp2
    go_region_held3 (fun w'' => w''.cell? ⟨w.heap.size + 1, 0, none⟩ = some (.int .u8 y)) (first | with_reducible exact c1 | with_reducible exact cell_s6 hne c1 | with_reducible exact c0 | with_reducible exact cell_s6 hne c0 | with_reducible exact cell_s6d hne c0 | with_reducible exact cell_s7d hne c0) (fail)
    go_wp2
    simp only [Exit.jump]
    have D2 : ((((((w'.setCell ⟨w.heap.size, 0, none⟩ (.int .u32 0)).setCell ⟨w.heap.size, 1, none⟩ (.int .u32 0)).setCell ⟨w.heap.size, 2, none⟩ (.int .u16 0)).setCell ⟨w.heap.size, 3, none⟩ (.int .u16 0)).setCell ⟨w.heap.size, 4, none⟩ (.int .u8 0)).setCell ⟨w.heap.size, 5, none⟩ (.slice none 0 0)).heap[w.heap.size]? = some (.cells [.int .u32 0, .int .u32 0, .int .u16 0, .int .u16 0, .int .u8 0, .slice none 0 0].toArray 28 (0, 0)) := full_setCells HD.out [.int .u32 0, .int .u32 0, .int .u16 0, .int .u16 0, .int .u8 0, .slice none 0 0] rfl
    have E2 : ((((((w'.setCell ⟨w.heap.size, 0, none⟩ (.int .u32 0)).setCell ⟨w.heap.size, 1, none⟩ (.int .u32 0)).setCell ⟨w.heap.size, 2, none⟩ (.int .u16 0)).setCell ⟨w.heap.size, 3, none⟩ (.int .u16 0)).setCell ⟨w.heap.size, 4, none⟩ (.int .u8 0)).setCell ⟨w.heap.size, 5, none⟩ (.slice none 0 0)).heap[w.heap.size + 1]? = some (.cells #[.int .u8 y] 5 (0, 0)) := (setCells_other (b := w.heap.size) (k := w.heap.size + 1) hne [.int .u32 0, .int .u32 0, .int .u16 0, .int .u16 0, .int .u8 0, .slice none 0 0] 0 w').trans HB.out.dr
    have K2 : ((((((w'.setCell ⟨w.heap.size, 0, none⟩ (.int .u32 0)).setCell ⟨w.heap.size, 1, none⟩ (.int .u32 0)).setCell ⟨w.heap.size, 2, none⟩ (.int .u16 0)).setCell ⟨w.heap.size, 3, none⟩ (.int .u16 0)).setCell ⟨w.heap.size, 4, none⟩ (.int .u8 0)).setCell ⟨w.heap.size, 5, none⟩ (.slice none 0 0)).heap[D]? = some (.deferred (some [])) := (others_setCells w.heap.size [.int .u32 0, .int .u32 0, .int .u16 0, .int .u16 0, .int .u8 0, .slice none 0 0] 0 w').same D _ HK.out rfl
    have B2 : Below w.heap.size w ((((((w'.setCell ⟨w.heap.size, 0, none⟩ (.int .u32 0)).setCell ⟨w.heap.size, 1, none⟩ (.int .u32 0)).setCell ⟨w.heap.size, 2, none⟩ (.int .u16 0)).setCell ⟨w.heap.size, 3, none⟩ (.int .u16 0)).setCell ⟨w.heap.size, 4, none⟩ (.int .u8 0)).setCell ⟨w.heap.size, 5, none⟩ (.slice none 0 0)) := below_setCells w.heap.size (Nat.le_refl _) [.int .u32 0, .int .u32 0, .int .u16 0, .int .u16 0, .int .u8 0, .slice none 0 0] 0 w _ HB.out.lo
    clear q0 q1 q2 q3 q4 q5 f0 f1 f2 f3 f4 f5 c0 g0
    generalize ((((((w'.setCell ⟨w.heap.size, 0, none⟩ (.int .u32 0)).setCell ⟨w.heap.size, 1, none⟩ (.int .u32 0)).setCell ⟨w.heap.size, 2, none⟩ (.int .u16 0)).setCell ⟨w.heap.size, 3, none⟩ (.int .u16 0)).setCell ⟨w.heap.size, 4, none⟩ (.int .u8 0)).setCell ⟨w.heap.size, 5, none⟩ (.slice none 0 0)) = W2 at *
    have D3 := (Below.heap_setCell W2 ⟨w.heap.size + 1, 0, none⟩ (.int .u8 y) _ (by simp)).trans D2
    have E3 := heap_setCell_same W2 (w.heap.size + 1) 0 _ _ (.int .u8 y) E2
    have K3 := (KeepsOthers.setCell W2 ⟨w.heap.size + 1, 0, none⟩ (.int .u8 y)).same D _ K2 rfl
    have B3 := B2.setCell (p := ⟨w.heap.size + 1, 0, none⟩) (by simp) (.int .u8 y)
    have D4 : (W2.setCell ⟨w.heap.size + 1, 0, none⟩ (.int .u8 y)).drew.heap[w.heap.size]? = _ := D3
    have E4 : (W2.setCell ⟨w.heap.size + 1, 0, none⟩ (.int .u8 y)).drew.heap[w.heap.size + 1]? = _ := E3
    have K4 : (W2.setCell ⟨w.heap.size + 1, 0, none⟩ (.int .u8 y)).drew.heap[D]? = _ := K3
    have B4 := B3.drew
    clear D2 E2 K2 B2 D3 E3 K3 B3
    generalize (W2.setCell ⟨w.heap.size + 1, 0, none⟩ (.int .u8 y)).drew = W3 at *
    refine ⟨by simp, .inl ⟨_, _, rfl, run_takeDeferred K4, ?_⟩⟩
    refine ⟨_, results_pk2 rfl _ _ w.heap.size (w.heap.size + 1) _ (0, 0) y rfl ((World.putObj_heap_other (by have := HDD.out; omega)).trans D4) rfl rfl ?_, ?_⟩
    · rw [cell_of_row _ _ _ _ _ _ ((World.putObj_heap_other (by have := HDD.out; omega)).trans E4)]
      rfl
    · unfold PkParseRet
      rw [HYY.out]
      exact .inl ⟨HY.out, rfl, B4.trans (belowK_b (w := w) (Nat.le_refl _) _ D _ _ (by have := HDD.out; omega) K4 rfl rfl)⟩
  case first =>
    rw [← wpIn_wide (n := n)]
    gi_wp2_with fail
    generalize (w.alloc (.cells #[.int .u32 0, .int .u32 0, .int .u16 0, .int .u16 0, .int .u8 0, .slice none 0 0] 28)).alloc (.cells #[.int .u8 0] 5) = W0 at *
    refine ⟨trivial, (looksAt_in (n - 1) a len cap w.heap.size W0).mono ?_⟩
    rintro e w1 ⟨rfl, rfl⟩
    rw [hs0]
    have B0 : PkBase bs a len cap w 0 ((W0.alloc (.cells #[.slice a len cap] 22)).alloc (.cells #[.pointer (some ⟨w.heap.size, 0, none⟩)] 54)) :=
      ⟨(L0.alloc (by omega) _).alloc (by simp; omega) _, by simp; omega, blk_new (blk_new dD _) _, blk_new (by have := heap_alloc_new W0 (.cells #[.slice a len cap] 22); rwa [hs0] at this) _, by have := heap_alloc_new (W0.alloc (.cells #[.slice a len cap] 22)) (.cells #[.pointer (some ⟨w.heap.size, 0, none⟩)] 54); rwa [World.size_alloc, hs0] at this⟩
    have dP2 := blk_new (blk_new dP (.cells #[.slice a len cap] 22)) (.cells #[.pointer (some ⟨w.heap.size, 0, none⟩)] 54)
    have HB0 := Lib.hid B0
    have HP0 := Lib.hid dP2
    have hs4 : ((W0.alloc (.cells #[.slice a len cap] 22)).alloc (.cells #[.pointer (some ⟨w.heap.size, 0, none⟩)] 54)).heap.size = w.heap.size + 4 := by simp; omega
    clear B0 dP2 dP dD L0
    gi_wp2
    generalize (W0.alloc (.cells #[.slice a len cap] 22)).alloc (.cells #[.pointer (some ⟨w.heap.size, 0, none⟩)] 54) = V at *
    refine range_ok rfl h1n (gf := 33) (lb := #[.pointer (some ⟨w.heap.size + 2, 0, none⟩), .pointer (some ⟨w.heap.size + 2 + 1, 0, none⟩)]) rfl trivial (enters_of Tryd.func33 (by kernel_rfl) rfl)
      (looks_ok (n - 1) (by omega) (w.heap.size + 2) (w.heap.size + 2 + 1) (w.heap.size + 4) V (by omega)) (fun pre x W l o o' => LookOk.turn pre x W l o o') (fun _ _ => trivial) (fun _ _ _ _ _ _ _ _ => trivial) (fun _ => rfl)
      (PkInv bs a len cap w) (PkOut bs a len cap w) (pkInv_abide bs a len cap w V.heap.size (by omega)) (pkOut_abide bs a len cap w V.heap.size (by omega)) ⟨HB0.out, .inl ⟨rfl, HP0.out⟩⟩
      (fun x => { tmps := #[.slice a len cap, undef, .pointer (some ⟨w.heap.size, 0, none⟩), .pointer (some ⟨w.heap.size + 1, 0, none⟩), lookAt (w.heap.size + 2) (w.heap.size + 2 + 1) x, .slice a len cap, .func (.func 33) #[] #[.pointer (some ⟨w.heap.size + 2, 0, none⟩), .pointer (some ⟨w.heap.size + 2 + 1, 0, none⟩)], lookAt (w.heap.size + 2) (w.heap.size + 2 + 1) x, undef, undef, undef, undef, undef, undef, undef, undef, undef, undef], defers := [] }) ?assign ?body ?done ?stop
    case assign =>
      intro l x W K hK
      gi_wp2
      exact hK
    case stop =>
      rintro D c pre W hD _ ⟨rfl, h2, h3, z0, z1, z2, z3, z4, h4⟩ hK
      refine wpIn_goto ?_
      simp only [Exit.inBlock, Exit.then]
      exact ⟨rfl, D, z0, z1, z2, z3, z4, _, _, _, _, _, _, _, _, _, _, _, _, _, _, _, _, rfl, h2, h3, h4, hK, by omega⟩
    case done =>
      rintro D ys W hD ⟨hb, rfl⟩ ⟨h1, h2⟩ hK
      have h3 : pkwhy bs = 0 ∧ W.heap[w.heap.size]? = some (.cells #[.int .u32 (segAt bs 8), .int .u32 (segAt bs 9), .int .u16 (wordAt (bs.drop (hlOf bs)) 0), .int .u16 (wordAt (bs.drop (hlOf bs)) 1), .int .u8 ((bs.drop (hlOf bs))[13]?.getD 0), .slice none 0 0] 28 (0, 0)) := by
        rcases h2 with ⟨k, _⟩ | ⟨_, k, _⟩ | ⟨_, k, _⟩ | ⟨_, k, k2, k3⟩
        · cases k
        · cases k
        · cases k
        · exact ⟨k2, k3⟩
      obtain ⟨hw, hP⟩ := h3
      have hlen : 0 < len := by
        have h0 : whyOf bs = 0 := by
          unfold pkwhy at hw
          by_cases h : whyOf bs = 0
          · exact h
          · rw [if_pos h] at hw
            exact hw
        have h1 := (why_zero h0).1
        have h2 := HL.out
        omega
      have RW := HR.out.step h1.lo
      have hnil : a = none → cap = 0 := by
        rintro rfl
        obtain ⟨b, off, hb, _⟩ := RW.2 (by rw [HL.out]; exact hlen)
        cases hb
      have K := Lib.hid (clone_any a len cap bs HL.out W RW hnil (by have := HLN.out.1; omega))
      have HB := Lib.hid h1
      have HP := Lib.hid hP
      have HW := Lib.hid hw
      have HK := Lib.hid hK
      clear h1 h2 hP hw RW hnil hK
      simp only [Exit.inBlock, Exit.then]
      apply_assumption
      rw [wpIn_wide]
      go_wp2_with (fail)
      refine K.out.mono ?_
      rintro e w1 ⟨A, c, rfl, ho, m1⟩
      have hd := (m1.block _ (Array.getElem?_eq_some_iff.1 HP.out).1).trans HP.out
      have hdr := (m1.block _ (Array.getElem?_eq_some_iff.1 HB.out.dr).1).trans HB.out.dr
      have HK1 := Lib.hid ((m1.block _ (Array.getElem?_eq_some_iff.1 HK.out).1).trans HK.out)
      have HL1 := Lib.hid (HB.out.lo.trans (m1.mono HB.out.lo.size))
      have HO := Lib.hid ho
      have HSZ := Lib.hid (And.intro HB.out.lo.size (And.intro hD hs4))
      clear ho m1 K hD hs4
      obtain ⟨s8, hs8⟩ : ∃ x, segAt bs 8 = x := ⟨_, rfl⟩
      obtain ⟨s9, hs9⟩ : ∃ x, segAt bs 9 = x := ⟨_, rfl⟩
      obtain ⟨t0, ht0⟩ : ∃ x, wordAt (bs.drop (hlOf bs)) 0 = x := ⟨_, rfl⟩
      obtain ⟨t1, ht1⟩ : ∃ x, wordAt (bs.drop (hlOf bs)) 1 = x := ⟨_, rfl⟩
      obtain ⟨t2, ht2⟩ : ∃ x, (bs.drop (hlOf bs))[13]?.getD 0 = x := ⟨_, rfl⟩
      obtain ⟨m, hm⟩ : ∃ x, bs.length = x := ⟨_, rfl⟩
      rw [hs8, hs9, ht0, ht1, ht2] at hd
      rw [hm] at HO
      rw [hm]
      have HE := Lib.hid (show segAt bs 8 = s8 ∧ segAt bs 9 = s9 ∧ wordAt (bs.drop (hlOf bs)) 0 = t0 ∧ wordAt (bs.drop (hlOf bs)) 1 = t1 ∧ (bs.drop (hlOf bs))[13]?.getD 0 = t2 ∧ bs.length = m from ⟨hs8, hs9, ht0, ht1, ht2, hm⟩)
      clear hs8 hs9 ht0 ht1 ht2 hm
      obtain ⟨q0, q1, q2, q3, q4, q5⟩ := pk_cells _ _ _ _ _ _ _ _ hd
      have f0 := pk_frozen hd 0
      have f1 := pk_frozen hd 1
      have f2 := pk_frozen hd 2
      have f3 := pk_frozen hd 3
      have f4 := pk_frozen hd 4
      have f5 := pk_frozen hd 5
      have c0 : w1.cell? ⟨w.heap.size + 1, 0, none⟩ = some (.int .u8 0) := by rw [cell_of_row _ _ _ _ _ _ hdr]; rfl
      have g0 : w1.frozen? ⟨w.heap.size + 1, 0, none⟩ = false := by simp [World.frozen?, hdr]
      have HD := Lib.hid hd
      have HDR := Lib.hid hdr
      clear hd hdr
      go_wp2
      have D1 := heap_setCell_same w1 w.heap.size 5 _ _ (.slice A m c) HD.out
      have D2 : (((((((w1.setCell ⟨w.heap.size, 5, none⟩ (.slice A m c)).setCell ⟨w.heap.size, 0, none⟩ (.int .u32 s8)).setCell ⟨w.heap.size, 1, none⟩ (.int .u32 s9)).setCell ⟨w.heap.size, 2, none⟩ (.int .u16 t0)).setCell ⟨w.heap.size, 3, none⟩ (.int .u16 t1)).setCell ⟨w.heap.size, 4, none⟩ (.int .u8 t2)).setCell ⟨w.heap.size, 5, none⟩ (.slice A m c)).heap[w.heap.size]? = some (.cells [.int .u32 s8, .int .u32 s9, .int .u16 t0, .int .u16 t1, .int .u8 t2, .slice A m c].toArray 28 (0, 0)) := full_setCells D1 [.int .u32 s8, .int .u32 s9, .int .u16 t0, .int .u16 t1, .int .u8 t2, .slice A m c] rfl
      have O2 : (((((((w1.setCell ⟨w.heap.size, 5, none⟩ (.slice A m c)).setCell ⟨w.heap.size, 0, none⟩ (.int .u32 s8)).setCell ⟨w.heap.size, 1, none⟩ (.int .u32 s9)).setCell ⟨w.heap.size, 2, none⟩ (.int .u16 t0)).setCell ⟨w.heap.size, 3, none⟩ (.int .u16 t1)).setCell ⟨w.heap.size, 4, none⟩ (.int .u8 t2)).setCell ⟨w.heap.size, 5, none⟩ (.slice A m c)).ownsRow W.heap.size 5 1 (.slice A m c) m (bs.map (Value.int .u8)) := own_apartN (by decide) [.int .u32 s8, .int .u32 s9, .int .u16 t0, .int .u16 t1, .int .u8 t2, .slice A m c] 0 _ _ (own_apart HO.out HD.out (by decide) 5 (.slice A m c)) D1
      have E2 : (((((((w1.setCell ⟨w.heap.size, 5, none⟩ (.slice A m c)).setCell ⟨w.heap.size, 0, none⟩ (.int .u32 s8)).setCell ⟨w.heap.size, 1, none⟩ (.int .u32 s9)).setCell ⟨w.heap.size, 2, none⟩ (.int .u16 t0)).setCell ⟨w.heap.size, 3, none⟩ (.int .u16 t1)).setCell ⟨w.heap.size, 4, none⟩ (.int .u8 t2)).setCell ⟨w.heap.size, 5, none⟩ (.slice A m c)).heap[w.heap.size + 1]? = some (.cells #[.int .u8 0] 5 (0, 0)) := (setCells_other (b := w.heap.size) (k := w.heap.size + 1) (by omega) [.int .u32 s8, .int .u32 s9, .int .u16 t0, .int .u16 t1, .int .u8 t2, .slice A m c] 0 (w1.setCell ⟨w.heap.size, 5, none⟩ (.slice A m c))).trans ((Below.heap_setCell w1 ⟨w.heap.size, 5, none⟩ (.slice A m c) _ (by simp)).trans HDR.out)
      have K2 : (((((((w1.setCell ⟨w.heap.size, 5, none⟩ (.slice A m c)).setCell ⟨w.heap.size, 0, none⟩ (.int .u32 s8)).setCell ⟨w.heap.size, 1, none⟩ (.int .u32 s9)).setCell ⟨w.heap.size, 2, none⟩ (.int .u16 t0)).setCell ⟨w.heap.size, 3, none⟩ (.int .u16 t1)).setCell ⟨w.heap.size, 4, none⟩ (.int .u8 t2)).setCell ⟨w.heap.size, 5, none⟩ (.slice A m c)).heap[D]? = some (.deferred (some [])) := (others_setCells w.heap.size [.int .u32 s8, .int .u32 s9, .int .u16 t0, .int .u16 t1, .int .u8 t2, .slice A m c] 0 _).same D _ ((KeepsOthers.setCell w1 ⟨w.heap.size, 5, none⟩ (.slice A m c)).same D _ HK1.out rfl) rfl
      have B2 : Below w.heap.size w (((((((w1.setCell ⟨w.heap.size, 5, none⟩ (.slice A m c)).setCell ⟨w.heap.size, 0, none⟩ (.int .u32 s8)).setCell ⟨w.heap.size, 1, none⟩ (.int .u32 s9)).setCell ⟨w.heap.size, 2, none⟩ (.int .u16 t0)).setCell ⟨w.heap.size, 3, none⟩ (.int .u16 t1)).setCell ⟨w.heap.size, 4, none⟩ (.int .u8 t2)).setCell ⟨w.heap.size, 5, none⟩ (.slice A m c)) := below_setCells w.heap.size (Nat.le_refl _) [.int .u32 s8, .int .u32 s9, .int .u16 t0, .int .u16 t1, .int .u8 t2, .slice A m c] 0 w _ (HL1.out.setCell (p := ⟨w.heap.size, 5, none⟩) (Nat.le_refl _) (.slice A m c))
      clear q0 q1 q2 q3 q4 q5 f0 f1 f2 f3 f4 f5 c0 g0 D1
      simp only [Exit.jump]
      generalize (((((((w1.setCell ⟨w.heap.size, 5, none⟩ (.slice A m c)).setCell ⟨w.heap.size, 0, none⟩ (.int .u32 s8)).setCell ⟨w.heap.size, 1, none⟩ (.int .u32 s9)).setCell ⟨w.heap.size, 2, none⟩ (.int .u16 t0)).setCell ⟨w.heap.size, 3, none⟩ (.int .u16 t1)).setCell ⟨w.heap.size, 4, none⟩ (.int .u8 t2)).setCell ⟨w.heap.size, 5, none⟩ (.slice A m c)) = W2 at *
      have D3 := (Below.heap_setCell W2 ⟨w.heap.size + 1, 0, none⟩ (.int .u8 0) _ (by simp)).trans D2
      have E3 := heap_setCell_same W2 (w.heap.size + 1) 0 _ _ (.int .u8 0) E2
      have K3 := (KeepsOthers.setCell W2 ⟨w.heap.size + 1, 0, none⟩ (.int .u8 0)).same D _ K2 rfl
      have B3 := B2.setCell (p := ⟨w.heap.size + 1, 0, none⟩) (by simp) (.int .u8 0)
      have O3 := ownsRow_setCell_below O2 (a := ⟨w.heap.size + 1, 0, none⟩) (by simp; have := HB.out.sz; omega) (.int .u8 0)
      generalize W2.setCell ⟨w.heap.size + 1, 0, none⟩ (.int .u8 0) = W3 at *
      refine ⟨by simp, .inl ⟨_, _, rfl, run_takeDeferred K3, ?_⟩⟩
      refine ⟨_, results_pk2 rfl _ _ w.heap.size (w.heap.size + 1) _ (0, 0) 0 rfl ((World.putObj_heap_other (by have := HSZ.out; omega)).trans D3) rfl rfl ?_, ?_⟩
      · rw [cell_of_row _ _ _ _ _ _ ((World.putObj_heap_other (by have := HSZ.out; omega)).trans E3)]
        rfl
      · unfold PkParseRet
        rw [HE.out.1, HE.out.2.1, HE.out.2.2.1, HE.out.2.2.2.1, HE.out.2.2.2.2.1, HE.out.2.2.2.2.2]
        exact .inr ⟨HW.out, A, c, rfl, ownsRow_putObj (own_base O3 HB.out.lo.size) _ K3 rfl, B3.trans (belowK_b (w := w) (Nat.le_refl _) _ D _ _ (by have := HSZ.out; omega) K3 rfl rfl)⟩
    case body =>
      rintro l pre x W ⟨hb, hk⟩ hok
      rcases hok with ⟨rfl, hx, hn0, hH⟩ | ⟨hb', rfl, rfl⟩ | ⟨hb', rfl, rfl⟩
      · obtain ⟨x1, hh⟩ := x
        simp only at hx hn0 hH
        subst hx
        rw [show lookAt (w.heap.size + 2) (w.heap.size + 2 + 1) (0, hh) = .func (.func 34) #[] #[.pointer (some ⟨w.heap.size + 2, 0, none⟩), .pointer (some ⟨hh, 0, none⟩)] from rfl]
        have hP : W.heap[w.heap.size]? = some (.cells #[.int .u32 0, .int .u32 0, .int .u16 0, .int .u16 0, .int .u8 0, .slice none 0 0] 28 (0, 0)) := by
          rcases hk with ⟨_, k⟩ | ⟨_, k, _⟩ | ⟨_, k, _⟩ | ⟨_, k, _⟩
          · exact k
          all_goals cases k
        have K := Lib.hid (asHead_any (w.heap.size + 2) hh a len cap bs HL.out HLN.out.2.1 HLN.out.2.2 HLN.out.1 W (HGW.out W hb.lo).1 (HGW.out W hb.lo).2 (HR.out.step hb.lo) hb.bx hH)
        have HB := Lib.hid hb
        have HP := Lib.hid hP
        have HH := Lib.hid hH
        clear hb hk hP hH
        gi_wp2
        refine ⟨trivial, (fun _ => by omega), ?_⟩
        refine (CallsIn.inRound l (callsIn_wide.2 K.out)).mono ?_
        rintro e W2 ⟨rfl, w1, vs, hvs, m1, hW2, hz⟩
        have hd1 := (m1.block _ (Array.getElem?_eq_some_iff.1 HH.out).1).trans HH.out
        have M2 : Below (w.heap.size + 4) W W2 := by rw [hW2]; exact (m1.mono HB.out.sz).trans (below_setCells hh hn0 vs 0 w1 w1 (Below.refl _ _))
        have HB2 := Lib.hid (HB.out.kept (M2.mono (by omega)) (fun k _ hk => M2.block k hk))
        have HP2 := Lib.hid ((M2.block _ (by omega)).trans HP.out)
        have HK2 : Hid (KeepsFrom V.heap.size W W2) := Lib.hid (by rw [hW2]; exact (keeps_below m1).trans ((others_setCells hh vs 0 w1).from _))
        have HC2 : Hid (whyOf bs = 0 → PkHead bs (w.heap.size + 4) hh W2) := Lib.hid fun h0 => by
          obtain ⟨oa, on, oc, pa, pc, rfl, ho⟩ := hz h0
          refine ⟨h0, hn0, oa, on, oc, pa, pc, ?_, ?_⟩
          · rw [hW2]
            exact full_setCells hd1 _ rfl
          · rw [hW2]
            exact own_base (own_apartN (by decide) _ 0 _ _ ho hd1) HB.out.sz
        have c0 : W2.cell? ⟨w.heap.size + 1, 0, none⟩ = some (.int .u8 0) := by rw [cell_of_row _ _ _ _ _ _ HB2.out.dr]; rfl
        have f0 : W2.frozen? ⟨w.heap.size + 1, 0, none⟩ = false := by simp [World.frozen?, HB2.out.dr]
        clear hW2 hd1 M2 m1 hz hvs K
        by_cases hy : whyOf bs = 0
        · have HY := Lib.hid hy
          rw [hy]
          clear hy
          gi_wp2
          refine ⟨HK2.out.trans ((KeepsOthers.setCell _ _ _).from _), trivial, HB2.out.drop 0, .inr (.inl ⟨hh, rfl, (Below.heap_setCell _ ⟨w.heap.size + 1, 0, none⟩ _ _ (by simp)).trans HP2.out, ?_⟩)⟩
          obtain ⟨_, _, oa, on, oc, pa, pc, g1, g2⟩ := HC2.out HY.out
          exact ⟨HY.out, hn0, oa, on, oc, pa, pc, (Below.heap_setCell _ ⟨w.heap.size + 1, 0, none⟩ _ _ (by simp; omega)).trans g1, ownsRow_setCell_below g2 (a := ⟨w.heap.size + 1, 0, none⟩) (by simp) _⟩
        · have hp : pkwhy bs = whyOf bs := by unfold pkwhy; rw [if_pos hy]
          have HPW := Lib.hid hp
          have HY := Lib.hid hy
          have p1 : (whyOf bs != 0) = true := by simpa using hy
          generalize whyOf bs = y at *
          clear hy hp
          gi_wp2
          refine wpIn_goto ?_
          refine ⟨HK2.out.trans ((KeepsOthers.setCell _ _ _).from _), rfl, by rw [HPW.out]; exact HY.out, by rw [HPW.out]; exact HB2.out.drop _, 0, 0, 0, 0, 0, (Below.heap_setCell _ ⟨w.heap.size + 1, 0, none⟩ _ _ (by simp)).trans HP2.out⟩
      · rw [show lookAt (w.heap.size + 2) (w.heap.size + 2 + 1) (1, hb') = .func (.func 36) #[] #[.pointer (some ⟨hb', 0, none⟩)] from rfl]
        have hP : W.heap[w.heap.size]? = some (.cells #[.int .u32 0, .int .u32 0, .int .u16 0, .int .u16 0, .int .u8 0, .slice none 0 0] 28 (0, 0)) ∧ PkHead bs (w.heap.size + 4) hb' W := by
          rcases hk with ⟨k, _⟩ | ⟨hb2, k, k2, k3⟩ | ⟨_, k, _⟩ | ⟨_, k, _⟩
          · cases k
          · cases k
            exact ⟨k2, k3⟩
          all_goals cases k
        obtain ⟨hP, h0, hn0, oa, on, oc, pa, pc, hH, hO⟩ := hP
        have K := Lib.hid (asProtocol_any hb' _ _ _ _ _ _ _ _ _ _ _ _ _ W hH)
        have HB := Lib.hid hb
        have HP := Lib.hid hP
        have HO := Lib.hid hO
        have HH := Lib.hid hH
        have H0 := Lib.hid h0
        have c0 : W.cell? ⟨w.heap.size + 1, 0, none⟩ = some (.int .u8 0) := by rw [cell_of_row _ _ _ _ _ _ hb.dr]; rfl
        have f0 : W.frozen? ⟨w.heap.size + 1, 0, none⟩ = false := by simp [World.frozen?, hb.dr]
        clear hb hk hP hH hO h0
        gi_wp2
        refine ⟨trivial, (fun _ => by omega), ?_⟩
        refine (CallsIn.inRound l (callsIn_wide.2 K.out)).mono ?_
        rintro e W2 ⟨rfl, rfl⟩
        clear K
        by_cases h6 : segAt bs 6 % 256 = 6
        · have H6 := Lib.hid h6
          rw [if_pos h6]
          clear h6
          gi_wp2
          exact ⟨(KeepsOthers.setCell _ _ _).from _, trivial, HB.out.drop 0, .inr (.inr (.inl ⟨hb', rfl, (Below.heap_setCell _ ⟨w.heap.size + 1, 0, none⟩ _ _ (by simp)).trans HP.out, ⟨H0.out, hn0, oa, on, oc, pa, pc, (Below.heap_setCell _ ⟨w.heap.size + 1, 0, none⟩ _ _ (by simp; omega)).trans HH.out, ownsRow_setCell_below HO.out (a := ⟨w.heap.size + 1, 0, none⟩) (by simp) _⟩, H6.out⟩))⟩
        · have hp : pkwhy bs = 7 := by unfold pkwhy; rw [if_neg (by rw [H0.out]; decide), if_pos h6]
          have HPW := Lib.hid hp
          rw [if_neg h6]
          clear hp h6
          gi_wp2
          refine wpIn_goto ?_
          exact ⟨(KeepsOthers.setCell _ _ _).from _, rfl, by rw [HPW.out]; decide, by rw [HPW.out]; exact HB.out.drop _, 0, 0, 0, 0, 0, (Below.heap_setCell _ ⟨w.heap.size + 1, 0, none⟩ _ _ (by simp)).trans HP.out⟩
      · rw [show lookAt (w.heap.size + 2) (w.heap.size + 2 + 1) (2, hb') = .func (.func 37) #[] #[.pointer (some ⟨hb', 0, none⟩), .pointer (some ⟨w.heap.size + 2 + 1, 0, none⟩)] from rfl]
        have hP : W.heap[w.heap.size]? = some (.cells #[.int .u32 0, .int .u32 0, .int .u16 0, .int .u16 0, .int .u8 0, .slice none 0 0] 28 (0, 0)) ∧ PkHead bs (w.heap.size + 4) hb' W ∧ segAt bs 6 % 256 = 6 := by
          rcases hk with ⟨k, _⟩ | ⟨hb2, k, k2, k3⟩ | ⟨_, k, k2, k3, k4⟩ | ⟨_, k, _⟩
          · cases k
          · cases k
          · cases k
            exact ⟨k2, k3, k4⟩
          · cases k
        obtain ⟨hP, ⟨h0, hn0, oa, on, oc, pa, pc, hH, hO⟩, h6⟩ := hP
        have hcp := own_cap hO
        have K := Lib.hid (asSegment_any hb' (w.heap.size + 2 + 1) w.heap.size _ _ _ _ _ _ _ _ _ _ _ _ _ (bs.drop (hlOf bs)) (segAt_in HI.out 8) (segAt_in HI.out 9) rfl hcp.1 hcp.2 W (Row.of_own hO (in_wf8 (in_drop HI.out (hlOf bs)))) hH hb.px hP)
        have HB := Lib.hid hb
        have HP := Lib.hid hP
        have H06 := Lib.hid (And.intro h0 h6)
        clear hb hk hP hH hO h0 h6 hcp
        gi_wp2
        refine ⟨trivial, (fun _ => by omega), ?_⟩
        refine (CallsIn.inRound l (callsIn_wide.2 K.out)).mono ?_
        rintro e W2 ⟨rfl, w1, t0, t1, t2, m1, hW2, hz⟩
        have hsz := HB.out.sz
        have lo : Below w.heap.size W W2 := by rw [hW2]; exact below_setCells w.heap.size (Nat.le_refl _) _ 0 W w1 (m1.mono HB.out.lo.size)
        have HB2 := Lib.hid (HB.out.kept lo (fun k h1 h2 => by rw [hW2]; exact (setCells_other (by omega) _ _ _).trans (m1.block k (by omega))))
        have HP2 : Hid (W2.heap[w.heap.size]? = some (.cells #[.int .u32 (segAt bs 8), .int .u32 (segAt bs 9), .int .u16 t0, .int .u16 t1, .int .u8 t2, .slice none 0 0] 28 (0, 0))) := Lib.hid (by rw [hW2]; exact pk_five ((m1.block _ (by omega)).trans HP.out) _ _ _ _ _)
        have HK2 : Hid (KeepsFrom V.heap.size W W2) := Lib.hid (by rw [hW2]; exact (keeps_below m1).trans ((others_setCells w.heap.size _ 0 w1).from _))
        have HZ := Lib.hid hz
        have hp : pkwhy bs = twhy (segAt bs 8) (segAt bs 9) (bs.drop (hlOf bs)) := by unfold pkwhy; rw [if_neg (by rw [H06.out.1]; decide), if_neg (by rw [H06.out.2]; decide)]
        have HPW := Lib.hid hp
        have c0 : W2.cell? ⟨w.heap.size + 1, 0, none⟩ = some (.int .u8 0) := by rw [cell_of_row _ _ _ _ _ _ HB2.out.dr]; rfl
        have f0 : W2.frozen? ⟨w.heap.size + 1, 0, none⟩ = false := by simp [World.frozen?, HB2.out.dr]
        clear hW2 lo m1 hz K hp hsz
        by_cases hy : twhy (segAt bs 8) (segAt bs 9) (bs.drop (hlOf bs)) = 0
        · have HY := Lib.hid hy
          rw [hy]
          clear hy
          gi_wp2
          refine ⟨HK2.out.trans ((KeepsOthers.setCell _ _ _).from _), trivial, HB2.out.drop 0, .inr (.inr (.inr ⟨hb', rfl, by rw [HPW.out]; exact HY.out, ?_⟩))⟩
          obtain ⟨e0, e1, e2⟩ := HZ.out HY.out
          rw [← e0, ← e1, ← e2]
          exact (Below.heap_setCell _ ⟨w.heap.size + 1, 0, none⟩ _ _ (by simp)).trans HP2.out
        · have HY := Lib.hid hy
          have p1 : (twhy (segAt bs 8) (segAt bs 9) (bs.drop (hlOf bs)) != 0) = true := by simpa using hy
          generalize twhy (segAt bs 8) (segAt bs 9) (bs.drop (hlOf bs)) = y at *
          clear hy
          gi_wp2
          refine wpIn_goto ?_
          exact ⟨HK2.out.trans ((KeepsOthers.setCell _ _ _).from _), rfl, by rw [HPW.out]; exact HY.out, by rw [HPW.out]; exact HB2.out.drop _, _, _, _, _, _, (Below.heap_setCell _ ⟨w.heap.size + 1, 0, none⟩ _ _ (by simp)).trans HP2.out⟩
end Go.Proofs.YtnncmcfonkhckaaDoor
