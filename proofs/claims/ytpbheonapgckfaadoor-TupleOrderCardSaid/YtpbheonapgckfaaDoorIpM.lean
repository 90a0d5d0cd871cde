/- Rows of cells that are stored at once: what they hold behind it, and what stays. Nothing of the program is imported. -/
import Derived.Test.YtpbheonapgckfaaDoorOpen
import Derived.Deep.MidRow
namespace Go.Proofs.YtpbheonapgckfaaDoor
open Go.RowKit Go.Shelf

theorem below_setCells {B : Nat} (b : Nat) (hb : B ≤ b) : ∀ (vs : List Value) (o : Nat) (w w' : World), Below B w w' → Below B w (w'.setCells b o vs)
  | [], _, _, _, h => h
  | v :: r, o, w, _, h => below_setCells b hb r (o + 1) w _ (h.setCell (p := ⟨b, o, none⟩) hb v)
theorem kind_setCells (b : Nat) (t : TypeId) : ∀ (vs : List Value) (o : Nat) (w : World) (cur : Array Value), w.heap[b]? = some (.cells cur t (0, 0)) → ∃ cur' : Array Value, (w.setCells b o vs).heap[b]? = some (.cells cur' t (0, 0))
  | [], _, _, cur, h => ⟨cur, h⟩
  | v :: r, o, w, _, h => kind_setCells b t r (o + 1) _ _ (heap_setCell_same w b o _ t v h)
/-- What a block of cells holds, once all are stored. -/
theorem row_setCells {w : World} {b : Nat} {cur : Array Value} {t : TypeId} (h : w.heap[b]? = some (.cells cur t (0, 0))) (vs : List Value) (hl : vs.length ≤ cur.size) :
    ∃ cur' : Array Value, (w.setCells b 0 vs).heap[b]? = some (.cells cur' t (0, 0)) ∧ ∀ j (hj : j < vs.length), (w.setCells b 0 vs).cell? ⟨b, j, none⟩ = some vs[j] := by
  obtain ⟨cur', hc⟩ := kind_setCells b t vs 0 w cur h
  refine ⟨cur', hc, fun j hj => ?_⟩
  have := World.cell?_setCells_in b vs 0 w (fun j hj => by
    rw [cell_of_row _ _ _ _ _ _ h]
    simp
    omega) j hj
  simpa using this
theorem there_row {w : World} {b : Nat} {cur : Array Value} {t : TypeId} (h : w.heap[b]? = some (.cells cur t (0, 0))) (n : Nat) (hn : n ≤ cur.size) : w.there b 0 n := fun j hj => by
  refine ⟨?_, ?_⟩
  · rw [cell_of_row _ _ _ _ _ _ h]
    simp
    omega
  · simp [World.frozen?, h]
theorem cell_sc {W : World} {b j b' : Nat} {vs : List Value} {v : Value} (hne : b ≠ b') (h : W.cell? ⟨b, j, none⟩ = some v) : (W.setCells b' 0 vs).cell? ⟨b, j, none⟩ = some v := by
  rw [World.cell?_setCells_out b' vs 0 W ⟨b, j, none⟩ (fun e => absurd e hne)]
  exact h
theorem grown_of_below {w w' : World} (h : Below w.heap.size w w') (row : Option Nat) : w.grownBy w' row := ⟨h.os, h.tape, h.output, h.size, fun k hk _ => h.block k hk⟩
/-- What lay below n lies as it lay, and every block of cells of the types ts. -/
def KeepT (n : Nat) (ts : List TypeId) (W W' : World) : Prop := Below n W W' ∧ ∀ (b : Nat) (cur : Array Value) (t : TypeId) (r : Nat × Nat), t ∈ ts → W.heap[b]? = some (.cells cur t r) → W'.heap[b]? = some (.cells cur t r)
theorem KeepT.refl (n : Nat) (ts : List TypeId) (W : World) : KeepT n ts W W := ⟨Below.refl _ _, fun _ _ _ _ _ h => h⟩
theorem keepT_t {n : Nat} {ts : List TypeId} {A B C : World} (h : KeepT n ts A B) (k : KeepT n ts B C) : KeepT n ts A C :=
  ⟨h.1.trans k.1, fun b c t r ht hb => k.2 b c t r ht (h.2 b c t r ht hb)⟩
theorem keepT_b {n : Nat} {ts : List TypeId} {w : World} (hn : n ≤ w.heap.size) (W : World) (l : Nat) (o o' : Obj) (hl : w.heap.size ≤ l) (h : W.heap[l]? = some o) (h1 : o.isCells = false) (h2 : o.isWalk = false) : KeepT n ts W (W.putObj l o') :=
  ⟨belowK_b hn W l o o' hl h h1 h2, fun b cur t r _ hx => by
    have hne : b ≠ l := by
      rintro rfl
      rw [h] at hx
      injection hx with hx
      subst hx
      cases h1
    exact (World.putObj_heap_other (fun e => hne (by rw [e]))).trans hx⟩
/-- Behind an append of one element to a row of the call's own. -/
theorem keepT_append {B n : Nat} {ts : List TypeId} {w wr w1 : World} {v : Value} {o : Obj} {e : TypeId} {xs : List Value} (h : KeepT B ts w wr) (hB : B ≤ wr.heap.size) (hown : wr.ownsRow B e 1 v n xs) (hts : e ∉ ts) (hgrow : (wr.alloc o).grownBy w1 v.ownBlock) : KeepT B ts w w1 :=
  ⟨below_append h.1 hB hown hgrow, fun b cur t r ht hb => by
    have hb2 := h.2 b cur t r ht hb
    have hlt : b < wr.heap.size := (Array.getElem?_eq_some_iff.1 hb2).1
    have hne : some b ≠ v.ownBlock := by
      intro he
      rcases hown.2 with ⟨rfl, _⟩ | ⟨g, cap, cur', rfl, _, hg, _⟩
      · cases he
      · simp only [Value.ownBlock, Option.some.injEq] at he
        subst he
        rw [hg] at hb2
        injection hb2 with hb2
        injection hb2 with _ e2 _
        exact hts (e2 ▸ ht)
    exact (hgrow.block b (by simp; omega) hne).trans ((Below.heap_alloc wr o b hlt).trans hb2)⟩
/-- The same, and whatever is no cells. -/
def KeepA (n : Nat) (ts : List TypeId) (W W' : World) : Prop := KeepT n ts W W' ∧ KeepsOthers W W'
theorem KeepA.refl (n : Nat) (ts : List TypeId) (W : World) : KeepA n ts W W := ⟨KeepT.refl _ _ _, KeepsOthers.refl _⟩
theorem keepA_append {B n : Nat} {ts : List TypeId} {w wr w1 : World} {v : Value} {o : Obj} {e : TypeId} {xs : List Value} (h : KeepA B ts w wr) (hB : B ≤ wr.heap.size) (hown : wr.ownsRow B e 1 v n xs) (hts : e ∉ ts) (hgrow : (wr.alloc o).grownBy w1 v.ownBlock) : KeepA B ts w w1 :=
  ⟨keepT_append h.1 hB hown hts hgrow, h.2.trans ((KeepsOthers.alloc wr o).trans (KeepsOthers.of_grownBy hgrow fun j x hj hx => by
    rcases (hown.alloc o).2 with ⟨rfl, _⟩ | ⟨g, cap, cur', rfl, _, hg, _⟩
    · cases hj
    · simp only [Value.ownBlock, Option.some.injEq] at hj
      subst hj
      rw [hg] at hx
      injection hx with hx
      rw [← hx]
      rfl))⟩
theorem keepT_set {n b : Nat} {ts : List TypeId} {W : World} {t : TypeId} {v : Value} (hb : Boxed W b t v) (hn : n ≤ b) (ht : t ∉ ts) (u : Value) : KeepT n ts W (W.setCell ⟨b, 0, none⟩ u) :=
  ⟨(Below.refl n W).setCell (p := ⟨b, 0, none⟩) hn u, fun c cur t' r ht' hc => by
    have hne : c ≠ b := by
      rintro rfl
      rw [show W.heap[c]? = _ from hb] at hc
      injection hc with hc
      injection hc with _ e _
      exact ht (e ▸ ht')
    exact (Below.heap_setCell W ⟨b, 0, none⟩ u c hne).trans hc⟩
theorem keepT_mono {n m : Nat} {ts : List TypeId} {W W' : World} (h : KeepT n ts W W') (hm : m ≤ n) : KeepT m ts W W' := ⟨h.1.mono hm, h.2⟩
/-- A store below the base leaves a row as it is. -/
theorem own_setBelow {w : World} {base : Nat} {e : TypeId} {v : Value} {n : Nat} {xs : List Value} (h : w.ownsRow base e 1 v n xs) (p : Addr) (hp : p.block < base) (u : Value) : (w.setCell p u).ownsRow base e 1 v n xs := by
  refine ⟨h.1, ?_⟩
  rcases h.2 with h' | ⟨g, cap, cur, h1, h2, h3, h4⟩
  · exact .inl h'
  · exact .inr ⟨g, cap, cur, h1, h2, (Below.heap_setCell w p u g (by omega)).trans h3, h4⟩
/-- What a range's invariant says of a row of the call's own abides. -/
theorem own_abides {W W' : World} {row : Option Nat} {base : Nat} {e : TypeId} {v : Value} {n : Nat} {xs : List Value} (h : W.ownsRow base e 1 v n xs) (hg : W.grownBy W' row) (hr : ∀ r, row = some r → ∃ o : Obj, W.heap[r]? = some o ∧ o.isCells = false) : W'.ownsRow base e 1 v n xs := by
  refine h.kept hg ?_
  rcases h.2 with ⟨rfl, _⟩ | ⟨g, cap, cur, rfl, _, hb, _⟩
  · exact .inl rfl
  · refine .inr fun e => ?_
    obtain ⟨o, ho, hc⟩ := hr g e.symm
    rw [hb] at ho
    injection ho with ho
    subst ho
    cases hc
end Go.Proofs.YtpbheonapgckfaaDoor
