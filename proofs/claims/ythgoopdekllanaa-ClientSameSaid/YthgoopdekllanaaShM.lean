/- A sheet's bytes: what is kept while package sheet's Put puts them. -/
import Derived.Test.YthgoopdekllanaaShL
import Derived.Test.YthgoopdekllanaaShB
namespace Go.Proofs.Ythgoopdekllanaa
open Go.RowKit Go.Shelf
open SumM

/-- A row's bytes, a sheet's. -/
def rowB (r : SR) : List Int := be 1 r.1 ++ be 1 (r.2.1 + 1) ++ be 1 (r.2.2.1 + 1) ++ be 4 r.2.2.2.1 ++ be 6 r.2.2.2.2
def shB (ba tv : Int) (rs : List SR) : List Int := be 6 (ba + 1) ++ be 6 tv ++ be 1 rs.length ++ rs.flatMap rowB
/-- While bytes are put. -/
structure PB (w : World) (ba tv : Int) (sa : Option Addr) (sn sc : Nat) (bs : List Int) (W : World) : Prop where
  sh : W.heap[w.heap.size]? = some (.cells #[.int .i64 ba, .int .i64 tv, .slice sa sn sc] 29 (0, 0))
  ct : W.heap[w.heap.size + 2]? = some (.cells #[.int .i64 (sn : Nat)] 3 (0, 0))
  bx : ∃ v, Boxed W (w.heap.size + 1) 30 v ∧ W.ownsRow w.heap.size 5 1 v bs.length (bs.map (Value.int .u8))
  lo : Below w.heap.size w W
theorem other_ne {W : World} {b l : Nat} {cs : Array Value} {t : TypeId} {r : Nat × Nat} {o : Obj} (h : W.heap[b]? = some (.cells cs t r)) (hl : W.heap[l]? = some o) (hc : o.isCells = false) : b ≠ l := by
  rintro rfl
  rw [h] at hl
  injection hl with hl
  subst hl
  cases hc
theorem PB.far {w W W' : World} {ba tv : Int} {sa : Option Addr} {sn sc : Nat} {bs : List Int} (h : PB w ba tv sa sn sc bs W) (m : Below W.heap.size W W') : PB w ba tv sa sn sc bs W' := by
  obtain ⟨h1, h2, ⟨v, h3, h4⟩, h5⟩ := h
  exact ⟨bbW h1 m, bbW h2 m, ⟨v, bbW h3 m, ownS_below h4 m⟩, h5.trans (m.mono h5.size)⟩
theorem PB.turn {w W : World} {ba tv : Int} {sa : Option Addr} {sn sc : Nat} {bs : List Int} (h : PB w ba tv sa sn sc bs W) {l : Nat} {o : Obj} (o' : Obj) (hB : w.heap.size ≤ l) (hl : W.heap[l]? = some o) (hc : o.isCells = false) : PB w ba tv sa sn sc bs (W.putObj l o') := by
  obtain ⟨h1, h2, ⟨v, h3, h4⟩, h5⟩ := h
  exact ⟨(World.putObj_heap_other (fun e => other_ne h1 hl hc e)).trans h1, (World.putObj_heap_other (fun e => other_ne h2 hl hc e)).trans h2, ⟨v, (World.putObj_heap_other (fun e => other_ne h3 hl hc e)).trans h3, ownsRow_putObj h4 o' hl hc⟩, h5.trans ⟨rfl, rfl, rfl, by simp [World.putObj], fun k hk => World.putObj_heap_other (by omega)⟩⟩
theorem PB.put {w W W1 : World} {ba tv : Int} {sa : Option Addr} {sn sc : Nat} {bs bs' : List Int} {v v1 : Value} (h : PB w ba tv sa sn sc bs W) (hv : Boxed W (w.heap.size + 1) 30 v) (K : KeepA w.heap.size uTs W W1) (O : W1.ownsRow w.heap.size 5 1 v1 bs'.length (bs'.map (Value.int .u8))) :
    PB w ba tv sa sn sc bs' (W1.setCell ⟨w.heap.size + 1, 0, none⟩ v1) := by
  obtain ⟨h1, h2, _, h5⟩ := h
  have e1 := K.1.2 _ _ _ _ (by decide) h1
  have e2 := K.1.2 _ _ _ _ (by decide) h2
  have e3 : Boxed W1 (w.heap.size + 1) 30 v := K.1.2 _ _ _ _ (by decide) hv
  refine ⟨(Below.heap_setCell _ _ _ _ (by simp)).trans e1, (Below.heap_setCell _ _ _ _ (by simp)).trans e2, ⟨v1, ?_, ?_⟩, (h5.trans K.1.1).setCell (p := ⟨w.heap.size + 1, 0, none⟩) (by simp) _⟩
  · have := heap_setCell_same W1 (w.heap.size + 1) 0 _ _ v1 e3
    unfold Boxed
    simpa using this
  · exact ownS_apart (by decide) [v1] 0 _ _ O e3
theorem PB.num {w W : World} {ba tv : Int} {sa : Option Addr} {sn sc : Nat} {bs : List Int} (h : PB w ba tv sa sn sc bs W) : NumAt W ⟨w.heap.size, 0, none⟩ ba ∧ NumAt W ⟨w.heap.size, 1, none⟩ tv ∧ NumAt W ⟨w.heap.size + 2, 0, none⟩ (sn : Nat) := by
  obtain ⟨c0, c1, c2⟩ := sh_cells _ _ _ _ _ h.sh
  exact ⟨⟨_, _, _, h.sh, by decide, c0⟩, ⟨_, _, _, h.sh, by decide, c1⟩, ⟨_, _, _, h.ct, by decide, ptr_cell h.ct⟩⟩
theorem row_nums {W : World} {rB : Nat} {rb ec ep eg et : Int} (h : W.heap[rB]? = some (.cells #[.int .i64 rb, .int .i64 ec, .int .i64 ep, .int .i64 eg, .int .i64 et] 63 (0, 0))) : NumAt W ⟨rB, 0, none⟩ rb ∧ NumAt W ⟨rB, 1, none⟩ ec ∧ NumAt W ⟨rB, 2, none⟩ ep ∧ NumAt W ⟨rB, 3, none⟩ eg ∧ NumAt W ⟨rB, 4, none⟩ et := by
  obtain ⟨c0, c1, c2, c3, c4⟩ := sr_cells _ _ _ _ _ h
  exact ⟨⟨_, _, _, h, by decide, c0⟩, ⟨_, _, _, h, by decide, c1⟩, ⟨_, _, _, h, by decide, c2⟩, ⟨_, _, _, h, by decide, c3⟩, ⟨_, _, _, h, by decide, c4⟩⟩
theorem keepT_sub {n : Nat} {ts us : List TypeId} {A B : World} (h : KeepT n us A B) (hs : ∀ t ∈ ts, t ∈ us) : KeepT n ts A B := ⟨h.1, fun b c t r ht hb => h.2 b c t r (hs t ht) hb⟩
/-- What a round of Put leaves. -/
theorem put_keeps {w W W1 : World} {v v1 : Value} (hv : Boxed W (w.heap.size + 1) 30 v) (K : KeepA w.heap.size uTs W W1) : KeepsOthers W (W1.setCell ⟨w.heap.size + 1, 0, none⟩ v1) ∧ KeepT w.heap.size pTs W (W1.setCell ⟨w.heap.size + 1, 0, none⟩ v1) := by
  refine ⟨K.2.trans (KeepsOthers.setCell _ _ _), keepT_t (keepT_sub K.1 (by decide)) (keepT_set (t := 30) (v := v) (K.1.2 _ _ _ _ (by decide) hv) (by omega) (by decide) _)⟩
/-- The bytes put by the first k numbers of a head, of a row. -/
def headK (ba tv : Int) (sn : Nat) (k : Nat) : List Int := match k with | 0 => [] | 1 => be 6 (ba + 1) | 2 => be 6 (ba + 1) ++ be 6 tv | _ => be 6 (ba + 1) ++ be 6 tv ++ be 1 (sn : Nat)
def rowK (r : SR) (k : Nat) : List Int := match k with | 0 => [] | 1 => be 1 r.1 | 2 => be 1 r.1 ++ be 1 (r.2.1 + 1) | 3 => be 1 r.1 ++ be 1 (r.2.1 + 1) ++ be 1 (r.2.2.1 + 1) | 4 => be 1 r.1 ++ be 1 (r.2.1 + 1) ++ be 1 (r.2.2.1 + 1) ++ be 4 r.2.2.2.1 | _ => rowB r
theorem rowB_len (r : SR) : (rowB r).length = 13 := by simp [rowB, be_length]
theorem headK_len (ba tv : Int) (sn k : Nat) : (headK ba tv sn k).length ≤ 13 := by
  unfold headK
  split <;> simp [be_length]
theorem rowK_len (r : SR) (k : Nat) : (rowK r k).length ≤ 13 := by
  unfold rowK
  split <;> simp [be_length, rowB_len]
theorem rowsB_len (rs : List SR) : (rs.flatMap rowB).length = 13 * rs.length := by
  induction rs with
  | nil => rfl
  | cons r t ih => rw [List.flatMap_cons, List.length_append, rowB_len, ih, List.length_cons]; omega
theorem shB_len (ba tv : Int) (rs : List SR) : (shB ba tv rs).length = 13 + 13 * rs.length := by
  simp only [shB, List.length_append, be_length, rowsB_len]
/-- The next number: where it lies, what it is, what is put then. -/
theorem head_next {w W : World} {ba tv : Int} {sa : Option Addr} {sn sc : Nat} {bs : List Int} (h : PB w ba tv sa sn sc bs W) (hr : (0 ≤ tv ∧ tv ≤ 1099511627776) ∧ (-1 ≤ ba ∧ ba < tv) ∧ sn ≤ 16) {k : Nat} (hk : k < 3) :
    ∃ x : Int, NumAt W (hnA w.heap.size (w.heap.size + 2) k) x ∧ I64 (x + hnP k) ∧ hnW k ≤ 6 ∧ headK ba tv sn k ++ be (hnW k) (x + hnP k) = headK ba tv sn (k + 1) := by
  obtain ⟨n0, n1, n2⟩ := h.num
  match k, hk with
  | 0, _ => exact ⟨ba, n0, ⟨by simp only [hnP]; omega, by simp only [hnP]; omega⟩, by decide, by simp [headK, hnW, hnP]⟩
  | 1, _ => exact ⟨tv, n1, ⟨by simp only [hnP]; omega, by simp only [hnP]; omega⟩, by decide, by simp [headK, hnW, hnP]⟩
  | 2, _ => exact ⟨(sn : Nat), n2, ⟨by simp only [hnP]; omega, by simp only [hnP]; omega⟩, by decide, by simp [headK, hnW, hnP]⟩
theorem row_next {W : World} {rB : Nat} {rb ec ep eg et : Int} (h : W.heap[rB]? = some (.cells #[.int .i64 rb, .int .i64 ec, .int .i64 ep, .int .i64 eg, .int .i64 et] 63 (0, 0))) (hr : I64 rb ∧ I64 (ec + 1) ∧ I64 (ep + 1) ∧ I64 eg ∧ I64 et) {k : Nat} (hk : k < 5) :
    ∃ x : Int, NumAt W ⟨rB, k, none⟩ x ∧ I64 (x + rnP k) ∧ rnW k ≤ 6 ∧ rowK (rb, ec, ep, eg, et) k ++ be (rnW k) (x + rnP k) = rowK (rb, ec, ep, eg, et) (k + 1) := by
  obtain ⟨n0, n1, n2, n3, n4⟩ := row_nums h
  obtain ⟨r0, r1, r2, r3, r4⟩ := hr
  match k, hk with
  | 0, _ => exact ⟨rb, n0, by simpa [rnP] using r0, by decide, by simp [rowK, rnW, rnP]⟩
  | 1, _ => exact ⟨ec, n1, by simpa [rnP] using r1, by decide, by simp [rowK, rnW, rnP]⟩
  | 2, _ => exact ⟨ep, n2, by simpa [rnP] using r2, by decide, by simp [rowK, rnW, rnP]⟩
  | 3, _ => exact ⟨eg, n3, by simpa [rnP] using r3, by decide, by simp [rowK, rnW, rnP]⟩
  | 4, _ => exact ⟨et, n4, by simpa [rnP] using r4, by decide, by simp [rowK, rnW, rnP, rowB]⟩

end Go.Proofs.Ythgoopdekllanaa
