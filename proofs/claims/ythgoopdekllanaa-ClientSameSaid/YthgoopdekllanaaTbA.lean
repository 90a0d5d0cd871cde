/- Tables: numbers in a row of cells; a table's cells, its rows, its version; read, held against each other. -/
import Derived.Test.YthgoopdekllanaaEyB
import Derived.Test.YthgoopdekllanaaRangeOkG
import Derived.DeepKeys
namespace Go.Proofs.Ythgoopdekllanaa
open Go.RowKit Go.Shelf
open SumM

/-- n numbers, as cells. -/
def numL (n : Nat) (T : Nat → Int) : List Value := (List.range n).map fun o => .int .i64 (T o)
theorem numL_len (n : Nat) (T : Nat → Int) : (numL n T).length = n := by simp [numL]
theorem numL_get {n o : Nat} (T : Nat → Int) (h : o < n) : (numL n T)[o]? = some (.int .i64 (T o)) := by simp [numL, h]
theorem numL_one (n : Nat) (T : Nat → Int) : ∀ v ∈ numL n T, v.oneCell' = true := by
  intro v hv
  simp only [numL, List.mem_map] at hv
  obtain ⟨o, _, rfl⟩ := hv
  rfl
theorem numL_all (n : Nat) (T : Nat → Int) : (numL n T).toArray.all (·.oneCell') = true := all_oneCell_toArray (numL_one n T)
theorem numL_congr {n : Nat} {T T' : Nat → Int} (h : ∀ o, o < n → T o = T' o) : numL n T = numL n T' := by
  unfold numL
  refine List.map_congr_left fun o ho => ?_
  rw [h o (List.mem_range.1 ho)]
theorem numL_inj {n : Nat} {T T' : Nat → Int} (h : numL n T = numL n T') : ∀ o, o < n → T o = T' o := by
  intro o ho
  have h1 := numL_get T ho
  rw [h, numL_get T' ho] at h1
  injection h1 with h1
  injection h1 with _ h1
  exact h1.symm

/-- One number turned. -/
def upd (T : Nat → Int) (o : Nat) (x : Int) : Nat → Int := fun k => if k = o then x else T k
/-- Bucket i's row turned. -/
def setR (T : Nat → Int) (i : Nat) (u : Ent) : Nat → Int := upd (upd (upd (upd T (1 + i * 4) u.1) (1 + i * 4 + 1) u.2.1) (1 + i * 4 + 2) u.2.2.1) (1 + i * 4 + 3) u.2.2.2
/-- Bucket i's row. -/
def rowT (T : Nat → Int) (i : Nat) : Ent := (T (1 + i * 4), T (1 + i * 4 + 1), T (1 + i * 4 + 2), T (1 + i * 4 + 3))

/-- A block of n numbers. -/
abbrev NB (b : Nat) (ty : TypeId) (n : Nat) (T : Nat → Int) (w : World) : Prop := w.heap[b]? = some (.cells (numL n T).toArray ty (0, 0))
theorem nb_cell {w : World} {b n : Nat} {ty : TypeId} {T : Nat → Int} (h : NB b ty n T w) {o : Nat} (ho : o < n) : w.cell? ⟨b, o, none⟩ = some (.int .i64 (T o)) := by
  rw [cell_of_row _ _ _ _ _ _ h]
  simpa using numL_get T ho
theorem nb_frozen {w : World} {b n : Nat} {ty : TypeId} {T : Nat → Int} (h : NB b ty n T w) (o : Nat) : w.frozen? ⟨b, o, none⟩ = false := by simp [World.frozen?, h]
theorem nb_range {w : World} {b n : Nat} {ty : TypeId} {T : Nat → Int} (h : NB b ty n T w) (o : Nat) {m : Nat} {S : Nat → Int} (hm : o + m ≤ n) (hS : ∀ k, k < m → S k = T (o + k)) : w.rangeAt b o (numL m S) := by
  intro j v hv
  have hj : j < m := by
    have := (List.getElem?_eq_some_iff.1 hv).1
    rwa [numL_len] at this
  rw [numL_get S hj] at hv
  rw [nb_cell h (by omega), ← hS j hj]
  exact hv
theorem nb_there {w : World} {b n : Nat} {ty : TypeId} {T : Nat → Int} (h : NB b ty n T w) (o m : Nat) (hm : o + m ≤ n) : w.there b o m := fun j hj => ⟨by rw [nb_cell h (by omega)]; rfl, nb_frozen h _⟩
theorem nb_below {w w' : World} {b n : Nat} {ty : TypeId} {T : Nat → Int} (h : NB b ty n T w) (m : Below w.heap.size w w') : NB b ty n T w' := (m.block _ (Array.getElem?_eq_some_iff.1 h).1).trans h
theorem nb_lt {w : World} {b n : Nat} {ty : TypeId} {T : Nat → Int} (h : NB b ty n T w) : b < w.heap.size := (Array.getElem?_eq_some_iff.1 h).1
theorem nb_congr {w : World} {b n : Nat} {ty : TypeId} {T T' : Nat → Int} (h : NB b ty n T w) (e : ∀ o, o < n → T o = T' o) : NB b ty n T' w := by
  unfold NB at *
  rw [← numL_congr e]
  exact h
/-- One cell stored. -/
theorem nb_put {w : World} {b n : Nat} {ty : TypeId} {T : Nat → Int} (h : NB b ty n T w) (o : Nat) (x : Int) : NB b ty n (upd T o x) (w.setCell ⟨b, o, none⟩ (.int .i64 x)) := by
  unfold NB
  rw [heap_setCell_same w b o _ ty _ h]
  congr 2
  apply Array.ext_getElem?
  intro i
  rw [Array.getElem?_setIfInBounds]
  simp only [List.size_toArray, List.getElem?_toArray, numL, List.length_map, List.length_range, List.getElem?_map]
  by_cases hi : i < n
  · rw [List.getElem?_range hi]
    by_cases he : o = i
    · subst he
      simp [upd, hi]
    · rw [if_neg he]
      simp only [Option.map_some, upd]
      rw [if_neg (fun e => he e.symm)]
  · rw [List.getElem?_eq_none (by simpa using hi)]
    by_cases he : o = i
    · subst he
      simp [hi]
    · simp [he]
/-- All cells stored. -/
theorem nb_full {w : World} {b n : Nat} {ty : TypeId} {T : Nat → Int} (h : NB b ty n T w) (S : Nat → Int) : NB b ty n S (w.setCells b 0 (numL n S)) :=
  full_setCells h (numL n S) (by simp [numL_len])
theorem nb_row {w : World} {b n : Nat} {ty : TypeId} {T : Nat → Int} (h : NB b ty n T w) (i : Nat) (u : Ent) : NB b ty n (setR T i u) (w.setCells b (1 + i * 4) [.int .i64 u.1, .int .i64 u.2.1, .int .i64 u.2.2.1, .int .i64 u.2.2.2]) :=
  nb_put (nb_put (nb_put (nb_put h _ _) _ _) _ _) _ _

theorem bb {W W' : World} {b : Nat} {o : Obj} (h : W.heap[b]? = some o) (m : Below W.heap.size W W') : W'.heap[b]? = some o := (m.block _ (Array.getElem?_eq_some_iff.1 h).1).trans h
theorem nb_other {b k : Nat} (h : k ≠ b) : ∀ (vs : List Value) (o : Nat) (w : World), (w.setCells b o vs).heap[k]? = w.heap[k]?
  | [], _, _ => rfl
  | v :: r, o, w => (nb_other h r (o + 1) _).trans (Below.heap_setCell w ⟨b, o, none⟩ v k h)

/-- A table's value. -/
abbrev tabV (T : Nat → Int) : Value := .agg (numL 65 T).toArray
/-- Its rows. -/
abbrev rowsV (T : Nat → Int) : Value := .agg (numL 64 fun k => T (1 + k)).toArray
abbrev entV (u : Ent) : Value := .agg #[.int .i64 u.1, .int .i64 u.2.1, .int .i64 u.2.2.1, .int .i64 u.2.2.2]

theorem Try.undT : Try.prog.underlying 26 = some (.struct (Try.prog.fieldsOf 26)) := by kernel_rfl

theorem Try.undA : Try.prog.underlying 24 = some (.array 16 23) := by kernel_rfl

theorem Try.undE : Try.prog.underlying 23 = some (.struct (Try.prog.fieldsOf 23)) := by kernel_rfl

theorem Try.sizT : (Try.prog.info? 26).map (·.size) = some 65 := by kernel_rfl

theorem Try.sizA : (Try.prog.info? 24).map (·.size) = some 64 := by kernel_rfl

theorem Try.sizE : (Try.prog.info? 23).map (·.size) = some 4 := by kernel_rfl

set_option maxRecDepth 100000 in
theorem fld_ver (T : Nat → Int) (W : World) : (Instr.field 26 (tabV T) 0).run Try.prog W = .ok (.int .i64 (T 0)) W := by kernel_rfl
set_option maxRecDepth 100000 in
theorem fld_rows (T : Nat → Int) (W : World) : (Instr.field 26 (tabV T) 1).run Try.prog W = .ok (rowsV T) W := by kernel_rfl
set_option maxRecDepth 100000 in
theorem idx_row (T : Nat → Int) (W : World) : ∀ (i : Nat), i < 16 → (Instr.index 24 (rowsV T) (.int .i64 (i : Nat))).run Try.prog W = .ok (entV (rowT T i)) W
  | 0, _ => by kernel_rfl
  | 1, _ => by kernel_rfl
  | 2, _ => by kernel_rfl
  | 3, _ => by kernel_rfl
  | 4, _ => by kernel_rfl
  | 5, _ => by kernel_rfl
  | 6, _ => by kernel_rfl
  | 7, _ => by kernel_rfl
  | 8, _ => by kernel_rfl
  | 9, _ => by kernel_rfl
  | 10, _ => by kernel_rfl
  | 11, _ => by kernel_rfl
  | 12, _ => by kernel_rfl
  | 13, _ => by kernel_rfl
  | 14, _ => by kernel_rfl
  | 15, _ => by kernel_rfl
  | n + 16, h => absurd h (by omega)

/-- A load, a store of many cells: names that the walk does not open. -/
def ldS (t : TypeId) (x : Value) : Sem Value := Instr.loadAt t x

def stS (t : TypeId) (x v : Value) : Sem Unit := Instr.storeAt t x v

def buS (t : TypeId) (ps : Array (Nat × Value)) : Sem Value := Instr.build t ps

theorem nm_buT (ps : Array (Nat × Value)) : Instr.build 26 ps = buS 26 ps := rfl

theorem nm_ldT (x : Value) : Instr.loadAt 26 x = ldS 26 x := rfl

theorem nm_ldA (x : Value) : Instr.loadAt 24 x = ldS 24 x := rfl

theorem nm_stT (x v : Value) : Instr.storeAt 26 x v = stS 26 x v := rfl

theorem ld_tab {w : World} {b : Nat} {T : Nat → Int} (h : NB b 26 65 T w) : (ldS 26 (.pointer (some ⟨b, 0, none⟩))).run Try.prog w = .ok (tabV T) w :=
  run_loadAt_mid w b 0 _ _ _ (rangeAt_row h) Try.undT rfl (by rw [numL_len]; exact Try.sizT)

theorem ld_rows {w : World} {b : Nat} {T : Nat → Int} (h : NB b 26 65 T w) : (ldS 24 (.pointer (some ⟨b, 1, none⟩))).run Try.prog w = .ok (rowsV T) w :=
  run_loadAt_mid w b 1 _ _ _ (nb_range h 1 (by omega) (fun _ _ => rfl)) Try.undA rfl (by rw [numL_len]; exact Try.sizA)

theorem rng_row {w : World} {b : Nat} {T : Nat → Int} (h : NB b 26 65 T w) (i : Nat) (hi : i < 16) : w.rangeAt b (1 + i * 4) (entC (rowT T i)) := by
  intro j v hv
  have hj : j = 0 ∨ j = 1 ∨ j = 2 ∨ j = 3 := by
    have := (List.getElem?_eq_some_iff.1 hv).1
    simp [entC] at this
    omega
  rw [nb_cell h (by omega)]
  rcases hj with rfl | rfl | rfl | rfl <;> simpa [entC, rowT] using hv

theorem ld_row {w : World} {b : Nat} {T : Nat → Int} (h : NB b 26 65 T w) (i : Nat) (hi : i < 16) : (Instr.loadAt 23 (.pointer (some ⟨b, 1 + i * 4, none⟩))).run Try.prog w = .ok (entV (rowT T i)) w :=
  run_loadAt_mid w b (1 + i * 4) _ (entC (rowT T i)) _ (rng_row h i hi) Try.undE rfl Try.sizE

theorem st_tab {w : World} {b : Nat} {T : Nat → Int} (h : NB b 26 65 T w) (S : Nat → Int) : (stS 26 (.pointer (some ⟨b, 0, none⟩)) (tabV S)).run Try.prog w = .ok () (w.setCells b 0 (numL 65 S)) :=
  run_storeAt_mid w b 0 _ _ (by rw [List.size_toArray, numL_len]; exact nb_there h 0 65 (by omega)) (by rw [List.size_toArray, numL_len]; exact Try.sizT) (numL_all _ _)

theorem st_row {w : World} {b : Nat} {T : Nat → Int} (h : NB b 26 65 T w) (i : Nat) (hi : i < 16) (u : Ent) : (Instr.storeAt 23 (.pointer (some ⟨b, 1 + i * 4, none⟩)) (entV u)).run Try.prog w = .ok () (w.setCells b (1 + i * 4) [.int .i64 u.1, .int .i64 u.2.1, .int .i64 u.2.2.1, .int .i64 u.2.2.2]) :=
  run_storeAt_mid w b (1 + i * 4) _ _ (nb_there h (1 + i * 4) 4 (by omega)) Try.sizE (all_oneCell_toArray (entC_one u))

def zeroT : Nat → Int := fun _ => 0
set_option maxRecDepth 100000 in
theorem zero_tab (w : World) : (zeroValue 26).run Try.prog w = .ok (tabV zeroT) w := by kernel_rfl
set_option maxRecDepth 100000 in
theorem build_tab (w : World) : (Instr.build 26 #[]).run Try.prog w = .ok (tabV zeroT) w := by kernel_rfl
set_option maxRecDepth 100000 in
theorem buS_tab (w : World) : (buS 26 #[]).run Try.prog w = .ok (tabV zeroT) w := by kernel_rfl

/-- The same numbers? -/
def eqN (n : Nat) (T T' : Nat → Int) : Bool := decide (∀ o, o < n → T o = T' o)

theorem eqN_iff {n : Nat} {T T' : Nat → Int} : eqN n T T' = true ↔ ∀ o, o < n → T o = T' o := by simp [eqN]

theorem eqN_refl (n : Nat) (T : Nat → Int) : eqN n T T = true := eqN_iff.2 fun _ _ => rfl

theorem run_items {dd : Nat} {e : TypeId} {s : Nat} {xs ys : Array Value} (c : Nat → Bool) (W : World) : ∀ is : List Nat, (∀ i ∈ is, ∃ a b, (part e xs (i * s)).run Try.prog W = .ok a W ∧ (part e ys (i * s)).run Try.prog W = .ok b W ∧ (Op.equalIn dd e a b).run Try.prog W = .ok (c i) W) → (Op.eqItems dd e s xs ys is).run Try.prog W = .ok (is.all c) W
  | [], _ => by simp [Op.eqItems]
  | i :: is, h => by
    obtain ⟨a, b, p1, p2, p3⟩ := h i (by simp)
    have ih := run_items c W is (fun j hj => h j (by simp [hj]))
    simp only [Op.eqItems, Sem.run_bind, p1, p2, p3, Result.andThen_ok]
    cases hc : c i
    · simp [hc]
    · simpa [hc] using ih

set_option maxRecDepth 100000 in
theorem run_eqEn (d : Nat) (u v : Ent) (W : World) : (Op.equalIn (d + 2) 23 (entV u) (entV v)).run Try.prog W = .ok (decide (u = v)) W := by
  obtain ⟨a, b, c, x⟩ := u
  obtain ⟨a', b', c', x'⟩ := v
  have hcase : (a = a' ∧ b = b' ∧ c = c' ∧ x = x') ∨ (a = a' ∧ b = b' ∧ c = c' ∧ x ≠ x') ∨ (a = a' ∧ b = b' ∧ c ≠ c') ∨ (a = a' ∧ b ≠ b') ∨ a ≠ a' := by omega
  rcases hcase with ⟨rfl, rfl, rfl, rfl⟩ | ⟨rfl, rfl, rfl, e⟩ | ⟨rfl, rfl, e⟩ | ⟨rfl, e⟩ | e
  · simp only [decide_true]
    go_simp
  all_goals
    simp only [Prod.mk.injEq, e, and_false, false_and, decide_false]
    go_simp

set_option maxRecDepth 100000 in
theorem prt_row (T : Nat → Int) (W : World) : ∀ (i : Nat), i < 16 → (part 23 (numL 64 T).toArray (i * 4)).run Try.prog W = .ok (entV (T (i * 4), T (i * 4 + 1), T (i * 4 + 2), T (i * 4 + 3))) W
  | 0, _ => by kernel_rfl
  | 1, _ => by kernel_rfl
  | 2, _ => by kernel_rfl
  | 3, _ => by kernel_rfl
  | 4, _ => by kernel_rfl
  | 5, _ => by kernel_rfl
  | 6, _ => by kernel_rfl
  | 7, _ => by kernel_rfl
  | 8, _ => by kernel_rfl
  | 9, _ => by kernel_rfl
  | 10, _ => by kernel_rfl
  | 11, _ => by kernel_rfl
  | 12, _ => by kernel_rfl
  | 13, _ => by kernel_rfl
  | 14, _ => by kernel_rfl
  | 15, _ => by kernel_rfl
  | n + 16, h => absurd h (by omega)

set_option maxRecDepth 100000 in
theorem prt_num (T : Nat → Int) (W : World) : ∀ (i : Nat), i < 6 → (part 3 (numL 6 T).toArray (i * 1)).run Try.prog W = .ok (.int .i64 (T i)) W
  | 0, _ => by kernel_rfl
  | 1, _ => by kernel_rfl
  | 2, _ => by kernel_rfl
  | 3, _ => by kernel_rfl
  | 4, _ => by kernel_rfl
  | 5, _ => by kernel_rfl
  | n + 6, h => absurd h (by omega)

set_option maxRecDepth 100000 in
theorem Try.infE' : ∃ i, Try.prog.info? 23 = some i := info_of_underlying Try.undE

set_option maxRecDepth 100000 in
theorem Try.cellE : Try.prog.cellsOf 23 = 4 := by kernel_rfl

set_option maxRecDepth 100000 in
theorem Try.cellI : Try.prog.cellsOf 3 = 1 := by kernel_rfl

set_option maxRecDepth 100000 in
theorem run_eqA' (d : Nat) (T T' : Nat → Int) (W : World) : (Op.equalIn (d + 3) 24 (.agg (numL 64 T).toArray) (.agg (numL 64 T').toArray)).run Try.prog W = .ok (eqN 64 T T') W := by
  obtain ⟨i, hi⟩ := Try.infE'
  rw [run_equalIn_array W (d + 2) _ _ Try.undA hi, Try.cellE, run_items (fun i => decide ((T (i * 4), T (i * 4 + 1), T (i * 4 + 2), T (i * 4 + 3)) = (T' (i * 4), T' (i * 4 + 1), T' (i * 4 + 2), T' (i * 4 + 3)))) W (List.range 16) (fun i hi => ⟨_, _, prt_row T W i (List.mem_range.1 hi), prt_row T' W i (List.mem_range.1 hi), run_eqEn d _ _ W⟩)]
  congr 1
  refine Bool.iffEq ?_
  rw [eqN_iff]
  simp only [List.all_eq_true, List.mem_range, decide_eq_true_eq, Prod.mk.injEq]
  constructor
  · intro h o ho
    obtain ⟨h0, h1, h2, h3⟩ := h (o / 4) (by omega)
    have hr : o % 4 = 0 ∨ o % 4 = 1 ∨ o % 4 = 2 ∨ o % 4 = 3 := by omega
    rcases hr with hr | hr | hr | hr
    · rwa [show o / 4 * 4 = o by omega] at h0
    · rwa [show o / 4 * 4 + 1 = o by omega] at h1
    · rwa [show o / 4 * 4 + 2 = o by omega] at h2
    · rwa [show o / 4 * 4 + 3 = o by omega] at h3
  · intro h i hi
    exact ⟨h _ (by omega), h _ (by omega), h _ (by omega), h _ (by omega)⟩

theorem run_eqA (T T' : Nat → Int) (W : World) : (Op.equalIn 10000 24 (.agg (numL 64 T).toArray) (.agg (numL 64 T').toArray)).run Try.prog W = .ok (eqN 64 T T') W := run_eqA' 9997 T T' W

set_option maxRecDepth 100000 in
theorem Try.fldsT : ∃ f0 f1 : Field, (Try.prog.fieldsOf 26).toList = [f0, f1] ∧ f0.name = "Version" ∧ f0.type = 3 ∧ f0.offset = 0 ∧ f1.name = "Rows" ∧ f1.type = 24 ∧ f1.offset = 1 := ⟨_, _, rfl, rfl, rfl, rfl, rfl, rfl, rfl⟩

set_option maxRecDepth 100000 in
theorem prt_ver (T : Nat → Int) (W : World) : (part 3 (numL 65 T).toArray 0).run Try.prog W = .ok (.int .i64 (T 0)) W := by kernel_rfl

set_option maxRecDepth 100000 in
theorem prt_rows (T : Nat → Int) (W : World) : (part 24 (numL 65 T).toArray 1).run Try.prog W = .ok (rowsV T) W := by kernel_rfl

set_option maxRecDepth 100000 in
theorem run_eqT (T T' : Nat → Int) (W : World) : (Op.equalIn 10000 26 (tabV T) (tabV T')).run Try.prog W = .ok (eqN 65 T T') W := by
  obtain ⟨f0, f1, hf, h1, h2, h3, h4, h5, h6⟩ := Try.fldsT
  rw [show (10000 : Nat) = 9999 + 1 from rfl, run_equalIn_struct W 9999 _ _ _ Try.undT (by kernel_rfl), hf]
  have e1 : (Op.equalIn 9999 3 (.int .i64 (T 0)) (.int .i64 (T' 0))).run Try.prog W = .ok (T 0 == T' 0) W := run_equalIn_int W 9998 3 .i64 .i64 _ _ (by kernel_rfl)
  have e2 : (Op.equalIn 9999 24 (rowsV T) (rowsV T')).run Try.prog W = _ := run_eqA' 9996 (fun k => T (1 + k)) (fun k => T' (1 + k)) W
  simp only [Op.eqFields, h1, h2, h3, h4, h5, h6, ne_eq, String.reduceEq, not_false_eq_true, if_true, Sem.run_bind, prt_ver, Result.andThen_ok, e1]
  have he : eqN 65 T T' = (T 0 == T' 0 && eqN 64 (fun k => T (1 + k)) (fun k => T' (1 + k))) := by
    refine Bool.iffEq ?_
    rw [Bool.and_eq_true, eqN_iff, eqN_iff, beq_iff_eq]
    constructor
    · intro h
      exact ⟨h 0 (by omega), fun o ho => h (1 + o) (by omega)⟩
    · intro h o ho
      rcases Nat.eq_zero_or_pos o with rfl | h0
      · exact h.1
      · have := h.2 (o - 1) (by omega)
        simpa [show 1 + (o - 1) = o by omega] using this
  rw [he]
  cases h0 : (T 0 == T' 0)
  · simp
  · simp only [Bool.not_true, Bool.false_eq_true, if_false, Sem.run_bind, prt_rows, Result.andThen_ok, e2]
    cases h9 : eqN 64 (fun k => T (1 + k)) (fun k => T' (1 + k)) <;> simp

/-- '==' and '!=' of two tables, of two tables' rows, of six numbers. -/
theorem eql_tab (T T' : Nat → Int) (W : World) : (Go.binOp .eql 26 (tabV T) (tabV T')).run Try.prog W = .ok (.bool (eqN 65 T T')) W := by
  rw [run_eql_struct, run_eqT]
  rfl

theorem neq_tab (T T' : Nat → Int) (W : World) : (Go.binOp .neq 26 (tabV T) (tabV T')).run Try.prog W = .ok (.bool (!(eqN 65 T T'))) W := by
  rw [run_neq_struct, run_eqT]
  rfl

theorem eql_rows (T T' : Nat → Int) (W : World) : (Go.binOp .eql 24 (.agg (numL 64 T).toArray) (.agg (numL 64 T').toArray)).run Try.prog W = .ok (.bool (eqN 64 T T')) W := by
  rw [run_eql_struct, run_eqA]
  rfl

end Go.Proofs.Ythgoopdekllanaa
