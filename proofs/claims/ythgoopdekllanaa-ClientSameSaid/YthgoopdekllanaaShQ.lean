/- A sheet of bytes: package sheet's Take. -/
import Derived.Test.YthgoopdekllanaaShN
import Derived.Test.YthgoopdekllanaaShP
import Derived.Test.YthgoopdekllanaaShG
namespace Go.Proofs.Ythgoopdekllanaa
open Go.RowKit Go.Shelf
open SumM

attribute [local go_sem] Oper.semAt_some

/-- How far the first k numbers of a head reach; what they are. -/
def hO (k : Nat) : Nat := match k with | 0 => 0 | 1 => 6 | 2 => 12 | _ => 13
def hv (bs : List Int) (j : Nat) : Int := numOf ((bs.drop (hO j)).take (hnW j)) - hnP j
def hF (bs : List Int) (k j : Nat) : Int := if j < k then hv bs j else 0
/-- What Take tells. -/
def tkS (bs : List Int) : ShRes :=
  if bs.length < 13 then (0, 0, [], 61) else
  if bs.length < 13 + 13 * (hv bs 2).toNat then (0, 0, [], 61) else
  if 13 + 13 * (hv bs 2).toNat < bs.length then (0, 0, [], 60) else
  if shOk (hv bs 0) (hv bs 1) (rowsOf (hv bs 2).toNat (bs.drop 13)) = true then (hv bs 0, hv bs 1, rowsOf (hv bs 2).toNat (bs.drop 13), 0) else (0, 0, [], 60)
/-- While the head's numbers are filled in. -/
structure TB (w : World) (len cap : Nat) (bs : List Int) (k : Nat) (W : World) : Prop where
  bx : ∃ b off, W.heap[w.heap.size]? = some (.cells #[.slice (some ⟨b, off, none⟩) (len - hO k) (cap - hO k)] 30 (0, 0)) ∧ Row .u8 w.heap.size W (some ⟨b, off, none⟩) (bs.drop (hO k))
  rs : W.heap[w.heap.size + 1]? = some (.cells #[.int .i64 0, .int .i64 0, .slice none 0 0] 29 (0, 0))
  sh : W.heap[w.heap.size + 2]? = some (.cells #[.int .i64 (hF bs k 0), .int .i64 (hF bs k 1), .slice none 0 0] 29 (0, 0))
  ct : W.heap[w.heap.size + 3]? = some (.cells #[.int .i64 (hF bs k 2)] 3 (0, 0))
  lo : Below w.heap.size w W
theorem TB.far {w W W' : World} {len cap : Nat} {bs : List Int} {k : Nat} (h : TB w len cap bs k W) (m : Below W.heap.size W W') : TB w len cap bs k W' := by
  obtain ⟨⟨b, off, h1, h2⟩, h3, h4, h5, h6⟩ := h
  exact ⟨⟨b, off, bbW h1 m, h2.below (m.mono h6.size)⟩, bbW h3 m, bbW h4 m, bbW h5 m, h6.trans (m.mono h6.size)⟩
theorem TB.turn {w W : World} {len cap : Nat} {bs : List Int} {k : Nat} (h : TB w len cap bs k W) {l : Nat} {o : Obj} (o' : Obj) (hB : w.heap.size ≤ l) (hl : W.heap[l]? = some o) (hc : o.isCells = false) : TB w len cap bs k (W.putObj l o') := by
  obtain ⟨⟨b, off, h1, h2⟩, h3, h4, h5, h6⟩ := h
  have hb : Below w.heap.size W (W.putObj l o') := ⟨rfl, rfl, rfl, by simp [World.putObj], fun k hk => World.putObj_heap_other (by omega)⟩
  exact ⟨⟨b, off, (World.putObj_heap_other (fun e => other_ne h1 hl hc e)).trans h1, h2.below hb⟩, (World.putObj_heap_other (fun e => other_ne h3 hl hc e)).trans h3, (World.putObj_heap_other (fun e => other_ne h4 hl hc e)).trans h4, (World.putObj_heap_other (fun e => other_ne h5 hl hc e)).trans h5, h6.trans hb⟩
theorem hO_succ {k : Nat} (h : k < 3) : hO (k + 1) = hO k + hnW k ∧ hO k + hnW k ≤ 13 ∧ 0 < hnW k ∧ hnW k ≤ 6 ∧ (0 ≤ hnP k ∧ hnP k ≤ 1) := by
  match k, h with
  | 0, _ => decide
  | 1, _ => decide
  | 2, _ => decide
theorem TB.cell {w W : World} {len cap : Nat} {bs : List Int} {k : Nat} (h : TB w len cap bs k W) {j : Nat} (hj : j < 3) : ∃ x : Int, W.cell? (hnA (w.heap.size + 2) (w.heap.size + 3) j) = some (.int .i64 x) ∧ W.frozen? (hnA (w.heap.size + 2) (w.heap.size + 3) j) = false ∧ hnB (w.heap.size + 2) (w.heap.size + 3) j < W.heap.size ∧ w.heap.size + 2 ≤ hnB (w.heap.size + 2) (w.heap.size + 3) j := by
  obtain ⟨c0, c1, c2⟩ := sh_cells _ _ _ _ _ h.sh
  match j, hj with
  | 0, _ => exact ⟨_, c0, sh_frozen h.sh 0, (Array.getElem?_eq_some_iff.1 h.sh).1, Nat.le_refl _⟩
  | 1, _ => exact ⟨_, c1, sh_frozen h.sh 1, (Array.getElem?_eq_some_iff.1 h.sh).1, Nat.le_refl _⟩
  | 2, _ => exact ⟨_, ptr_cell h.ct, sh_frozen h.ct 0, (Array.getElem?_eq_some_iff.1 h.ct).1, by simp [hnB]⟩
theorem TB.next {w U W1 : World} {len cap : Nat} {bs : List Int} {k : Nat} (h : TB w len cap bs k U) (hk : k < 3) {p : Addr} (hp : p = hnA (w.heap.size + 2) (w.heap.size + 3) k) (m : Below U.heap.size U W1) (ko : KeepsOthers U W1) {b off : Nat} (hA : Row .u8 w.heap.size U (some ⟨b, off, none⟩) ((bs.drop (hO k)).drop (hnW k))) :
    TB w len cap bs (k + 1) ((W1.setCell p (.int .i64 (hv bs k))).setCell ⟨w.heap.size, 0, none⟩ (.slice (some ⟨b, off, none⟩) (len - hO (k + 1)) (cap - hO (k + 1)))) ∧
      KeepsOthers U ((W1.setCell p (.int .i64 (hv bs k))).setCell ⟨w.heap.size, 0, none⟩ (.slice (some ⟨b, off, none⟩) (len - hO (k + 1)) (cap - hO (k + 1)))) ∧
      KeepT w.heap.size pTs U ((W1.setCell p (.int .i64 (hv bs k))).setCell ⟨w.heap.size, 0, none⟩ (.slice (some ⟨b, off, none⟩) (len - hO (k + 1)) (cap - hO (k + 1)))) := by
  obtain ⟨⟨b0, off0, h1, h2⟩, h3, h4, h5, h6⟩ := h
  have e1 := bbW h1 m
  have e3 := bbW h3 m
  have e4 := bbW h4 m
  have e5 := bbW h5 m
  have kk : KeepsOthers U ((W1.setCell p (.int .i64 (hv bs k))).setCell ⟨w.heap.size, 0, none⟩ (.slice (some ⟨b, off, none⟩) (len - hO (k + 1)) (cap - hO (k + 1)))) := ko.trans ((KeepsOthers.setCell _ _ _).trans (KeepsOthers.setCell _ _ _))
  have hd : bs.drop (hO (k + 1)) = (bs.drop (hO k)).drop (hnW k) := by rw [List.drop_drop, (hO_succ hk).1]
  have km : KeepT w.heap.size pTs U W1 := ⟨m.mono h6.size, fun _ _ _ _ _ hb => bbW hb m⟩
  match k, hk with
  | 0, _ =>
    obtain rfl : p = ⟨w.heap.size + 2, 0, none⟩ := hp
    have f1 : (W1.setCell ⟨w.heap.size + 2, 0, none⟩ (.int .i64 (hv bs 0))).heap[w.heap.size]? = _ := (Below.heap_setCell _ _ _ _ (by simp)).trans e1
    have f4 : (W1.setCell ⟨w.heap.size + 2, 0, none⟩ (.int .i64 (hv bs 0))).heap[w.heap.size + 2]? = _ := heap_setCell_same W1 (w.heap.size + 2) 0 _ _ (.int .i64 (hv bs 0)) e4
    have bl : Below w.heap.size U ((W1.setCell ⟨w.heap.size + 2, 0, none⟩ (.int .i64 (hv bs 0))).setCell ⟨w.heap.size, 0, none⟩ (.slice (some ⟨b, off, none⟩) (len - hO (0 + 1)) (cap - hO (0 + 1)))) := ((m.mono h6.size).setCell (p := ⟨w.heap.size + 2, 0, none⟩) (by simp) _).setCell (p := ⟨w.heap.size, 0, none⟩) (Nat.le_refl _) _
    refine ⟨⟨⟨b, off, by have := heap_setCell_same _ w.heap.size 0 _ _ (.slice (some ⟨b, off, none⟩) (len - hO (0 + 1)) (cap - hO (0 + 1))) f1; simpa using this, by rw [hd]; exact hA.below bl⟩,
      (Below.heap_setCell _ _ _ _ (by simp)).trans ((Below.heap_setCell _ _ _ _ (by simp)).trans e3), (Below.heap_setCell _ _ _ _ (by simp)).trans (f4.trans (by simp [hF])), (Below.heap_setCell _ _ _ _ (by simp)).trans ((Below.heap_setCell _ _ _ _ (by simp)).trans (e5.trans (by simp [hF]))), h6.trans bl⟩, kk, ?_⟩
    exact keepT_t (keepT_t km (keepT_cell e4 (by omega) (by decide) _ _)) (keepT_cell f1 (Nat.le_refl _) (by decide) _ _)
  | 1, _ =>
    obtain rfl : p = ⟨w.heap.size + 2, 1, none⟩ := hp
    have f1 : (W1.setCell ⟨w.heap.size + 2, 1, none⟩ (.int .i64 (hv bs 1))).heap[w.heap.size]? = _ := (Below.heap_setCell _ _ _ _ (by simp)).trans e1
    have f4 : (W1.setCell ⟨w.heap.size + 2, 1, none⟩ (.int .i64 (hv bs 1))).heap[w.heap.size + 2]? = _ := heap_setCell_same W1 (w.heap.size + 2) 1 _ _ (.int .i64 (hv bs 1)) e4
    have bl : Below w.heap.size U ((W1.setCell ⟨w.heap.size + 2, 1, none⟩ (.int .i64 (hv bs 1))).setCell ⟨w.heap.size, 0, none⟩ (.slice (some ⟨b, off, none⟩) (len - hO (1 + 1)) (cap - hO (1 + 1)))) := ((m.mono h6.size).setCell (p := ⟨w.heap.size + 2, 1, none⟩) (by simp) _).setCell (p := ⟨w.heap.size, 0, none⟩) (Nat.le_refl _) _
    refine ⟨⟨⟨b, off, by have := heap_setCell_same _ w.heap.size 0 _ _ (.slice (some ⟨b, off, none⟩) (len - hO (1 + 1)) (cap - hO (1 + 1))) f1; simpa using this, by rw [hd]; exact hA.below bl⟩,
      (Below.heap_setCell _ _ _ _ (by simp)).trans ((Below.heap_setCell _ _ _ _ (by simp)).trans e3), (Below.heap_setCell _ _ _ _ (by simp)).trans (f4.trans (by simp [hF])), (Below.heap_setCell _ _ _ _ (by simp)).trans ((Below.heap_setCell _ _ _ _ (by simp)).trans (e5.trans (by simp [hF]))), h6.trans bl⟩, kk, ?_⟩
    exact keepT_t (keepT_t km (keepT_cell e4 (by omega) (by decide) _ _)) (keepT_cell f1 (Nat.le_refl _) (by decide) _ _)
  | 2, _ =>
    obtain rfl : p = ⟨w.heap.size + 3, 0, none⟩ := hp
    have f1 : (W1.setCell ⟨w.heap.size + 3, 0, none⟩ (.int .i64 (hv bs 2))).heap[w.heap.size]? = _ := (Below.heap_setCell _ _ _ _ (by simp)).trans e1
    have f5 : (W1.setCell ⟨w.heap.size + 3, 0, none⟩ (.int .i64 (hv bs 2))).heap[w.heap.size + 3]? = _ := heap_setCell_same W1 (w.heap.size + 3) 0 _ _ (.int .i64 (hv bs 2)) e5
    have bl : Below w.heap.size U ((W1.setCell ⟨w.heap.size + 3, 0, none⟩ (.int .i64 (hv bs 2))).setCell ⟨w.heap.size, 0, none⟩ (.slice (some ⟨b, off, none⟩) (len - hO (2 + 1)) (cap - hO (2 + 1)))) := ((m.mono h6.size).setCell (p := ⟨w.heap.size + 3, 0, none⟩) (by simp) _).setCell (p := ⟨w.heap.size, 0, none⟩) (Nat.le_refl _) _
    refine ⟨⟨⟨b, off, by have := heap_setCell_same _ w.heap.size 0 _ _ (.slice (some ⟨b, off, none⟩) (len - hO (2 + 1)) (cap - hO (2 + 1))) f1; simpa using this, by rw [hd]; exact hA.below bl⟩,
      (Below.heap_setCell _ _ _ _ (by simp)).trans ((Below.heap_setCell _ _ _ _ (by simp)).trans e3), (Below.heap_setCell _ _ _ _ (by simp)).trans ((Below.heap_setCell _ _ _ _ (by simp)).trans (e4.trans (by simp [hF]))), (Below.heap_setCell _ _ _ _ (by simp)).trans (f5.trans (by simp [hF])), h6.trans bl⟩, kk, ?_⟩
    exact keepT_t (keepT_t km (keepT_cell e5 (by omega) (by decide) _ _)) (keepT_cell f1 (Nat.le_refl _) (by decide) _ _)

end Go.Proofs.Ythgoopdekllanaa
