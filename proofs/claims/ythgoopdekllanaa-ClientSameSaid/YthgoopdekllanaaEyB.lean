/- Entries: their equality; the document's Ints, Holders, Merge; law's some1. -/
import Derived.Test.YthgoopdekllanaaEyA
namespace Go.Proofs.Ythgoopdekllanaa
open Go.RowKit Go.Shelf
open SumM

/-- A guard on what was not wanted. -/
theorem guard_undef : yielded.match_1 (motive := fun _ => Option Bool) (some undef) (fun b => some b) (fun _ => none) = none := rfl
attribute [local go_sem] guard_undef

/-- Whether two entries are the same. -/
def eqE (ec ep eg et ec' ep' eg' et' : Int) : Bool := decide (ec = ec' ∧ ep = ep' ∧ eg = eg' ∧ et = et')
theorem eqE_iff {ec ep eg et ec' ep' eg' et' : Int} : eqE ec ep eg et ec' ep' eg' et' = true ↔ (ec, ep, eg, et) = (ec', ep', eg', et') := by simp [eqE]
theorem eqE_same (ec ep eg et : Int) : eqE ec ep eg et ec ep eg et = true := decide_eq_true ⟨rfl, rfl, rfl, rfl⟩

set_option maxRecDepth 100000 in
theorem run_eqE (ec ep eg et : Int) (ec' ep' eg' et' : Int) (W : World) : (Go.binOp .eql 23 (.agg #[.int .i64 ec, .int .i64 ep, .int .i64 eg, .int .i64 et]) (.agg #[.int .i64 ec', .int .i64 ep', .int .i64 eg', .int .i64 et'])).run Try.prog W = .ok (.bool (eqE ec ep eg et ec' ep' eg' et')) W := by
  have hcase : (ec = ec' ∧ ep = ep' ∧ eg = eg' ∧ et = et') ∨ (ec = ec' ∧ ep = ep' ∧ eg = eg' ∧ et ≠ et') ∨ (ec = ec' ∧ ep = ep' ∧ eg ≠ eg') ∨ (ec = ec' ∧ ep ≠ ep') ∨ ec ≠ ec' := by omega
  rcases hcase with ⟨rfl, rfl, rfl, rfl⟩ | ⟨rfl, rfl, rfl, e⟩ | ⟨rfl, rfl, e⟩ | ⟨rfl, e⟩ | e
  · rw [eqE_same]
    go_simp
  all_goals
    first
      | rw [show eqE ec ep eg et ec ep eg et' = false from decide_eq_false (by simp [e])]
      | rw [show eqE ec ep eg et ec ep eg' et' = false from decide_eq_false (by simp [e])]
      | rw [show eqE ec ep eg et ec ep' eg' et' = false from decide_eq_false (by simp [e])]
      | rw [show eqE ec ep eg et ec' ep' eg' et' = false from decide_eq_false (by simp [e])]
    go_simp
set_option maxRecDepth 100000 in
theorem run_neE (ec ep eg et : Int) (ec' ep' eg' et' : Int) (W : World) : (Go.binOp .neq 23 (.agg #[.int .i64 ec, .int .i64 ep, .int .i64 eg, .int .i64 et]) (.agg #[.int .i64 ec', .int .i64 ep', .int .i64 eg', .int .i64 et'])).run Try.prog W = .ok (.bool (!(eqE ec ep eg et ec' ep' eg' et'))) W := by
  have h := run_eqE ec ep eg et ec' ep' eg' et' W
  rw [run_eql_struct] at h
  rw [run_neq_struct]
  generalize (Op.equalIn 10000 23 (.agg #[.int .i64 ec, .int .i64 ep, .int .i64 eg, .int .i64 et]) (.agg #[.int .i64 ec', .int .i64 ep', .int .i64 eg', .int .i64 et'])).run Try.prog W = r at *
  cases r with
  | ok b w' =>
    simp only [Result.andThen_ok, Result.ok.injEq, Value.bool.injEq] at h ⊢
    exact ⟨by rw [h.1], h.2⟩
  | halt x w' => simp [Result.andThen] at h

/-- Who may have connections. -/
def hols (ec ep : Int) : List Int := (if ec = -1 then [] else [ec]) ++ (if ep = -1 then [] else [ep])
theorem hols_len (ec ep : Int) : (hols ec ep).length ≤ 2 := by
  unfold hols
  split <;> split <;> simp
theorem cell_new1 (W : World) (x : Int) (t : TypeId) : ∀ j u, ([Value.int .i64 x] : List Value)[j]? = some u → (W.alloc (.cells #[.int .i64 x] t)).cell? ((⟨W.heap.size, 0, none⟩ : Addr).add j) = some u := by
  intro j u hu
  rw [addr_add, cell_of_row _ _ _ _ _ _ (heap_alloc_new W _)]
  simpa using hu
theorem Try.infoInt : (Try.prog.info? 3).map (fun i => (i.zero, i.size, i.bytes)) = some (some (.int .i64 0), 1, 8) := by kernel_rfl

/-- Whether an entry may be; which of some is the newest one, so far, and whether there is one. -/
def rgE (u : Ent) : Bool := rgt u.1 u.2.1 u.2.2.1 u.2.2.2
def mgStep (o : Ent × Bool) (u : Ent) : Ent × Bool := if (rgE u && (!o.2 || decide (o.1.2.2.1 < u.2.2.1))) = true then (u, true) else o
def mgS (l : List Ent) : Ent × Bool := l.foldl mgStep (noEnt, false)
theorem mgS_snoc (l : List Ent) (u : Ent) : mgS (l ++ [u]) = mgStep (mgS l) u := by simp [mgS, List.foldl_append]
theorem mgS_take {us : List Ent} {k : Nat} (h : k < us.length) : mgS (us.take (k + 1)) = mgStep (mgS (us.take k)) (us[k]?.getD ent0) := by
  rw [List.take_add_one, List.getElem?_eq_getElem h]
  exact mgS_snoc _ _
/-- An element of a slice of entries. -/
theorem srow_at {B b off : Nat} {w : World} {us : List Ent} (h : SRow entC 4 B w (some ⟨b, off, none⟩) us) (k : Nat) (hk : k < us.length) :
    w.cell? ⟨b, off + k * 4, none⟩ = some (.int .i64 (us[k]?.getD ent0).1) ∧ w.cell? ⟨b, off + k * 4 + 1, none⟩ = some (.int .i64 (us[k]?.getD ent0).2.1) ∧ w.cell? ⟨b, off + k * 4 + 2, none⟩ = some (.int .i64 (us[k]?.getD ent0).2.2.1) ∧ w.cell? ⟨b, off + k * 4 + 3, none⟩ = some (.int .i64 (us[k]?.getD ent0).2.2.2) := by
  obtain ⟨b', off', e, _, hc⟩ := h (by omega)
  injection e with e
  injection e with e1 e2
  subst e1 e2
  rw [List.getElem?_eq_getElem hk]
  exact ⟨hc k hk 0 _ rfl, hc k hk 1 _ rfl, hc k hk 2 _ rfl, hc k hk 3 _ rfl⟩
theorem srow_addr {B : Nat} {w : World} {a : Option Addr} {us : List Ent} (h : SRow entC 4 B w a us) (hl : 0 < us.length) : ∃ b off, a = some ⟨b, off, none⟩ ∧ b < B := by
  obtain ⟨b, off, e, hb, _⟩ := h hl
  exact ⟨b, off, e, hb⟩

end Go.Proofs.Ythgoopdekllanaa
