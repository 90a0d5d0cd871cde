/- Sheets: their rows as numbers; may a sheet be. -/
import Derived.Test.YthgoopdekllanaaEyB
import Derived.Test.YthgoopdekllanaaRegIn
namespace Go.Proofs.Ythgoopdekllanaa
open Go.RowKit Go.Shelf
open SumM

theorem blkN {W : World} {k : Nat} {o : Obj} (h : W.heap[k]? = some o) (o' : Obj) : (W.alloc o').heap[k]? = some o :=
  (Below.heap_alloc _ _ _ (Array.getElem?_eq_some_iff.1 h).1).trans h
theorem newN (W : World) (o : Obj) (m : Nat) (h : W.heap.size = m) : (W.alloc o).heap[m]? = some o := by subst h; exact World.alloc_heap_new W o

/-- A row of a sheet: its bucket, its entry. -/
abbrev SR := Int × Ent
def rowC (r : SR) : List Value := [.int .i64 r.1, .int .i64 r.2.1, .int .i64 r.2.2.1, .int .i64 r.2.2.2.1, .int .i64 r.2.2.2.2]
theorem rowC_len (r : SR) : (rowC r).length = 5 := rfl
theorem rowC_one (r : SR) : ∀ v ∈ rowC r, v.oneCell' = true := by
  intro v hv
  simp [rowC] at hv
  rcases hv with rfl | rfl | rfl | rfl | rfl <;> rfl
abbrev sr0 : SR := (0, 0, 0, 0, 0)
abbrev srV (r : SR) : Value := .agg #[.int .i64 r.1, .int .i64 r.2.1, .int .i64 r.2.2.1, .int .i64 r.2.2.2.1, .int .i64 r.2.2.2.2]
structure SR.ok (r : SR) : Prop where
  h1 : I64 r.1
  h2 : Ent.ok r.2
theorem sr_cells {w : World} {b : Nat} (rb ec ep eg et : Int) (h : w.heap[b]? = some (.cells #[.int .i64 rb, .int .i64 ec, .int .i64 ep, .int .i64 eg, .int .i64 et] 63 (0, 0))) :
    w.cell? ⟨b, 0, none⟩ = some (.int .i64 rb) ∧ w.cell? ⟨b, 1, none⟩ = some (.int .i64 ec) ∧ w.cell? ⟨b, 2, none⟩ = some (.int .i64 ep) ∧ w.cell? ⟨b, 3, none⟩ = some (.int .i64 eg) ∧ w.cell? ⟨b, 4, none⟩ = some (.int .i64 et) := by
  refine ⟨?_, ?_, ?_, ?_, ?_⟩ <;> (rw [cell_of_row _ _ _ _ _ _ h]; rfl)
theorem sh_cells {w : World} {b : Nat} (ba tv : Int) (sa : Option Addr) (sn sc : Nat) (h : w.heap[b]? = some (.cells #[.int .i64 ba, .int .i64 tv, .slice sa sn sc] 29 (0, 0))) :
    w.cell? ⟨b, 0, none⟩ = some (.int .i64 ba) ∧ w.cell? ⟨b, 1, none⟩ = some (.int .i64 tv) ∧ w.cell? ⟨b, 2, none⟩ = some (.slice sa sn sc) := by
  refine ⟨?_, ?_, ?_⟩ <;> (rw [cell_of_row _ _ _ _ _ _ h]; rfl)
/-- A slice of rows reads so. -/
abbrev SRow5 (B : Nat) (w : World) (a : Option Addr) (rs : List SR) : Prop := SRow rowC 5 B w a rs
theorem sr_at {B b off : Nat} {w : World} {us : List SR} (h : SRow5 B w (some ⟨b, off, none⟩) us) (k : Nat) (hk : k < us.length) :
    w.cell? ⟨b, off + k * 5, none⟩ = some (.int .i64 (us[k]?.getD sr0).1) ∧ w.cell? ⟨b, off + k * 5 + 1, none⟩ = some (.int .i64 (us[k]?.getD sr0).2.1) ∧ w.cell? ⟨b, off + k * 5 + 2, none⟩ = some (.int .i64 (us[k]?.getD sr0).2.2.1) ∧ w.cell? ⟨b, off + k * 5 + 3, none⟩ = some (.int .i64 (us[k]?.getD sr0).2.2.2.1) ∧ w.cell? ⟨b, off + k * 5 + 4, none⟩ = some (.int .i64 (us[k]?.getD sr0).2.2.2.2) := by
  obtain ⟨b', off', e, _, hc⟩ := h (by omega)
  injection e with e
  injection e with e1 e2
  subst e1 e2
  rw [List.getElem?_eq_getElem hk]
  exact ⟨hc k hk 0 _ rfl, hc k hk 1 _ rfl, hc k hk 2 _ rfl, hc k hk 3 _ rfl, hc k hk 4 _ rfl⟩
theorem sr_addr {B : Nat} {w : World} {a : Option Addr} {us : List SR} (h : SRow5 B w a us) (hl : 0 < us.length) : ∃ b off, a = some ⟨b, off, none⟩ ∧ b < B := by
  obtain ⟨b, off, e, hb, _⟩ := h hl
  exact ⟨b, off, e, hb⟩

/-- Whether rows rise, from above a bucket on, each of a bucket and an entry that may be. -/
def rises : Int → List SR → Bool
  | _, [] => true
  | l, r :: rs => decide (l < r.1) && decide (r.1 < 16) && rgE r.2 && rises r.1 rs
/-- Whether a sheet may be. -/
def shOk (ba tv : Int) (rs : List SR) : Bool := decide (0 ≤ tv) && decide (tv ≤ 1099511627776) && decide (-1 ≤ ba) && decide (ba < tv) && (!decide (ba = -1) || decide (rs.length = 16)) && rises (-1) rs
/-- The bucket ahead of row k. -/
def lastB (rs : List SR) (k : Nat) : Int := if k = 0 then -1 else (rs[k - 1]?.getD sr0).1
theorem lastB_zero (rs : List SR) : lastB rs 0 = -1 := rfl
theorem lastB_succ (rs : List SR) (k : Nat) : lastB rs (k + 1) = (rs[k]?.getD sr0).1 := rfl
theorem rises_drop {rs : List SR} {k : Nat} (h : k < rs.length) (l : Int) : rises l (rs.drop k) = (decide (l < (rs[k]?.getD sr0).1) && decide ((rs[k]?.getD sr0).1 < 16) && rgE (rs[k]?.getD sr0).2 && rises (rs[k]?.getD sr0).1 (rs.drop (k + 1))) := by
  rw [List.drop_eq_getElem_cons h, List.getElem?_eq_getElem h]
  rfl
theorem rises_len : ∀ (rs : List SR) (l : Int), -1 ≤ l → l < 16 → rises l rs = true → (rs.length : Int) ≤ 15 - l
  | [], l, _, h2, _ => by simp; omega
  | r :: rs, l, h1, h2, h => by
    simp only [rises, Bool.and_eq_true, decide_eq_true_eq] at h
    have := rises_len rs r.1 (by omega) h.1.1.2 h.2
    simp only [List.length_cons]
    omega
theorem rises_le {rs : List SR} (h : rises (-1) rs = true) : rs.length ≤ 16 := by
  have := rises_len rs (-1) (by omega) (by omega) h
  omega
end Go.Proofs.Ythgoopdekllanaa
