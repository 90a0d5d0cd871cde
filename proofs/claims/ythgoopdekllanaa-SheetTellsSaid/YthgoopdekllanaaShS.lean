/- Blocks of rows: sixteen rows as eighty numbers; compared, loaded, laid in; rows copied into one. -/
import Derived.Test.YthgoopdekllanaaShE
import Derived.Test.YthgoopdekllanaaShF
import Derived.Test.YthgoopdekllanaaTbA
import Derived.Laws.IdiomCopy
namespace Go.Proofs.Ythgoopdekllanaa
open Go.RowKit Go.Shelf
open SumM

/-- A row's numbers, one by one. -/
def rowN (r : SR) (j : Nat) : Int := match j with | 0 => r.1 | 1 => r.2.1 | 2 => r.2.2.1 | 3 => r.2.2.2.1 | _ => r.2.2.2.2
def rowL (r : SR) : List Int := [r.1, r.2.1, r.2.2.1, r.2.2.2.1, r.2.2.2.2]
/-- Rows, filled up with rows of all 0. -/
def padF (us : List SR) (o : Nat) : Int := rowN (us[o / 5]?.getD sr0) (o % 5)
theorem flatS_rowL (us : List SR) : flatS rowC us = (us.flatMap rowL).map (Value.int .i64) := by
  induction us with
  | nil => rfl
  | cons u t ih =>
    rw [show flatS rowC (u :: t) = rowC u ++ flatS rowC t from rfl, ih, List.flatMap_cons, List.map_append]
    rfl
theorem rowsL_len (us : List SR) : (us.flatMap rowL).length = us.length * 5 := by
  induction us with
  | nil => rfl
  | cons u t ih => rw [List.flatMap_cons, List.length_append, ih, List.length_cons]; simp [rowL]; omega
theorem rowsL_get (us : List SR) (o : Nat) (h : o < us.length * 5) : (us.flatMap rowL)[o]?.getD 0 = padF us o := by
  induction us generalizing o with
  | nil => simp at h
  | cons u t ih =>
    rw [List.flatMap_cons]
    unfold padF
    rcases Nat.lt_or_ge o 5 with h5 | h5
    · rw [List.getElem?_append_left (by simpa [rowL] using h5)]
      have hc : o = 0 ∨ o = 1 ∨ o = 2 ∨ o = 3 ∨ o = 4 := by omega
      rcases hc with rfl | rfl | rfl | rfl | rfl <;> simp [rowL, rowN]
    · rw [List.getElem?_append_right (by simpa [rowL] using h5)]
      have := ih (o - 5) (by simp at h; omega)
      unfold padF at this
      rw [show (o - (rowL u).length) = o - 5 by rfl, this]
      rw [show (o - 5) / 5 = o / 5 - 1 by omega, show (o - 5) % 5 = o % 5 by omega]
      rw [show o / 5 = (o / 5 - 1) + 1 by omega]
      simp
/-- Numbers laid over others from a place on. -/
def updL (T : Nat → Int) (o : Nat) : List Int → Nat → Int
  | [] => T
  | x :: xs => updL (upd T o x) (o + 1) xs
theorem updL_at (xs : List Int) : ∀ (T : Nat → Int) (o k : Nat), updL T o xs k = if k < o then T k else (xs[k - o]?.getD (T k)) := by
  induction xs with
  | nil => intro T o k; simp [updL]
  | cons x t ih =>
    intro T o k
    rw [updL, ih]
    unfold upd
    by_cases h1 : k < o
    · rw [if_pos (by omega), if_neg (by omega), if_pos h1]
    · by_cases h2 : k = o
      · subst h2
        simp
      · rw [if_neg (by omega), if_neg h1, if_neg h2, show k - o = (k - (o + 1)) + 1 by omega]
        simp
theorem nb_puts {b n : Nat} {ty : TypeId} : ∀ (xs : List Int) (T : Nat → Int) (o : Nat) (w : World), NB b ty n T w → NB b ty n (updL T o xs) (w.setCells b o (xs.map (Value.int .i64)))
  | [], _, _, _, h => h
  | x :: xs, _, o, _, h => nb_puts xs _ (o + 1) _ (nb_put h o x)
theorem nb_pad {b : Nat} {ty : TypeId} {us : List SR} {w : World} (h : NB b ty 80 zeroT w) : NB b ty 80 (padF us) (w.setCells b 0 (flatS rowC us)) := by
  have := nb_puts (us.flatMap rowL) zeroT 0 w h
  rw [← flatS_rowL] at this
  refine nb_congr this fun o ho => ?_
  rw [updL_at, if_neg (by omega), Nat.sub_zero]
  rcases Nat.lt_or_ge o (us.length * 5) with h1 | h1
  · rw [← rowsL_get us o h1, List.getElem?_eq_getElem (by rw [rowsL_len]; exact h1)]
    rfl
  · rw [List.getElem?_eq_none (by rw [rowsL_len]; exact h1)]
    unfold padF
    rw [List.getElem?_eq_none (by omega)]
    simp only [Option.getD_none, zeroT]
    have hc : o % 5 = 0 ∨ o % 5 = 1 ∨ o % 5 = 2 ∨ o % 5 = 3 ∨ o % 5 = 4 := by omega
    rcases hc with e | e | e | e | e <;> simp [rowN, e]
/-- The same blocks are the same rows. -/
theorem pad_inj {us vs : List SR} (hl : us.length = vs.length) (h16 : us.length ≤ 16) (h : ∀ o, o < 80 → padF us o = padF vs o) : us = vs := by
  apply List.ext_getElem hl
  intro i h1 h2
  have h0 := h (i * 5) (by omega)
  have h1' := h (i * 5 + 1) (by omega)
  have h2' := h (i * 5 + 2) (by omega)
  have h3 := h (i * 5 + 3) (by omega)
  have h4 := h (i * 5 + 4) (by omega)
  unfold padF at h0 h1' h2' h3 h4
  rw [show i * 5 / 5 = i by omega, show i * 5 % 5 = 0 by omega, List.getElem?_eq_getElem h1, List.getElem?_eq_getElem h2] at h0
  rw [show (i * 5 + 1) / 5 = i by omega, show (i * 5 + 1) % 5 = 1 by omega, List.getElem?_eq_getElem h1, List.getElem?_eq_getElem h2] at h1'
  rw [show (i * 5 + 2) / 5 = i by omega, show (i * 5 + 2) % 5 = 2 by omega, List.getElem?_eq_getElem h1, List.getElem?_eq_getElem h2] at h2'
  rw [show (i * 5 + 3) / 5 = i by omega, show (i * 5 + 3) % 5 = 3 by omega, List.getElem?_eq_getElem h1, List.getElem?_eq_getElem h2] at h3
  rw [show (i * 5 + 4) / 5 = i by omega, show (i * 5 + 4) % 5 = 4 by omega, List.getElem?_eq_getElem h1, List.getElem?_eq_getElem h2] at h4
  simp only [Option.getD_some, rowN] at h0 h1' h2' h3 h4
  exact Prod.ext h0 (Prod.ext h1' (Prod.ext h2' (Prod.ext h3 h4)))

theorem Try.undB : Try.prog.underlying 93 = some (.array 16 63) := by kernel_rfl
theorem Try.sizB : (Try.prog.info? 93).map (·.size) = some 80 := by kernel_rfl
theorem nm_ldB (x : Value) : Instr.loadAt 93 x = ldS 93 x := rfl
theorem nm_stB (x v : Value) : Instr.storeAt 93 x v = stS 93 x v := rfl
abbrev blkV (T : Nat → Int) : Value := .agg (numL 80 T).toArray
theorem ld_blk {w : World} {b : Nat} {T : Nat → Int} (h : NB b 93 80 T w) : (ldS 93 (.pointer (some ⟨b, 0, none⟩))).run Try.prog w = .ok (blkV T) w :=
  run_loadAt_mid w b 0 _ _ _ (rangeAt_row h) Try.undB rfl (by rw [numL_len]; exact Try.sizB)
theorem st_blk {w : World} {b : Nat} {T : Nat → Int} (h : NB b 93 80 T w) (S : Nat → Int) : (stS 93 (.pointer (some ⟨b, 0, none⟩)) (blkV S)).run Try.prog w = .ok () (w.setCells b 0 (numL 80 S)) :=
  run_storeAt_mid w b 0 _ _ (by rw [List.size_toArray, numL_len]; exact nb_there h 0 80 (by omega)) (by rw [List.size_toArray, numL_len]; exact Try.sizB) (numL_all _ _)
set_option maxRecDepth 100000 in
theorem zero_blk (w : World) : (zeroValue 93).run Try.prog w = .ok (blkV zeroT) w := by kernel_rfl
/-- A fresh block's cells all stored: it is made so. -/
theorem setCells_new (vs : List Value) : ∀ (o : Nat) (w : World) (cs : Array Value) (t : TypeId), (w.alloc (.cells cs t)).setCells w.heap.size o vs = w.alloc (.cells ((List.zip (List.range' o vs.length) vs).foldl (fun c p => c.setIfInBounds p.1 p.2) cs) t) := by
  induction vs with
  | nil => intro o w cs t; rfl
  | cons v r ih =>
    intro o w cs t
    rw [World.setCells, World.setCell_alloc_new, ih (o + 1), List.length_cons, List.range'_succ]
    rfl
theorem fill_all (vs : List Value) : ∀ (pre : List Value) (cs : List Value), cs.length = vs.length → (List.zip (List.range' pre.length vs.length) vs).foldl (fun (c : Array Value) p => c.setIfInBounds p.1 p.2) (pre ++ cs).toArray = (pre ++ vs).toArray := by
  induction vs with
  | nil => intro pre cs h; simp at h; simp [h]
  | cons v r ih =>
    intro pre cs h
    match cs, h with
    | c :: ct, h =>
      rw [List.length_cons, List.range'_succ, List.zip_cons_cons, List.foldl_cons]
      have e : ((pre ++ c :: ct).toArray.setIfInBounds pre.length v) = ((pre ++ [v]) ++ ct).toArray := by
        simp [List.setIfInBounds_toArray]
      rw [e]
      have := ih (pre ++ [v]) ct (by simpa using h)
      simpa using this
theorem new_full {w : World} {cs vs : List Value} {t : TypeId} (h : cs.length = vs.length) : (w.alloc (.cells cs.toArray t)).setCells w.heap.size 0 vs = w.alloc (.cells vs.toArray t) := by
  rw [setCells_new]
  have := fill_all vs [] cs h
  simp only [List.length_nil, List.nil_append] at this
  rw [this]

set_option maxRecDepth 100000 in
theorem run_eqRn (d : Nat) (u v : SR) (W : World) : (Op.equalIn (d + 3) 63 (srV u) (srV v)).run Try.prog W = .ok (decide (u = v)) W := by
  obtain ⟨r, a, b, c, x⟩ := u
  obtain ⟨r', a', b', c', x'⟩ := v
  have hcase : (r = r' ∧ a = a' ∧ b = b' ∧ c = c' ∧ x = x') ∨ (r = r' ∧ a = a' ∧ b = b' ∧ c = c' ∧ x ≠ x') ∨ (r = r' ∧ a = a' ∧ b = b' ∧ c ≠ c') ∨ (r = r' ∧ a = a' ∧ b ≠ b') ∨ (r = r' ∧ a ≠ a') ∨ r ≠ r' := by omega
  rcases hcase with ⟨rfl, rfl, rfl, rfl, rfl⟩ | ⟨rfl, rfl, rfl, rfl, e⟩ | ⟨rfl, rfl, rfl, e⟩ | ⟨rfl, rfl, e⟩ | ⟨rfl, e⟩ | e
  · simp only [decide_true]
    go_simp
  all_goals
    simp only [Prod.mk.injEq, e, and_false, false_and, decide_false]
    go_simp
set_option maxRecDepth 100000 in
theorem prt_rowB (T : Nat → Int) (W : World) : ∀ (i : Nat), i < 16 → (part 63 (numL 80 T).toArray (i * 5)).run Try.prog W = .ok (srV (T (i * 5), T (i * 5 + 1), T (i * 5 + 2), T (i * 5 + 3), T (i * 5 + 4))) W
  | 0, _ => by kernel_rfl
  | 1, _ => by kernel_rfl
  | 2, _ => by kernel_rfl
  | 3, _ => by kernel_rfl
  | 4, _ => by kernel_rfl
  | 5, _ => by kernel_rfl
  | 6, _ => by kernel_rfl
  | 7, _ => by kernel_rfl
  | 8, _ => by kernel_rfl
  | 9, _ => by kernel_rfl
  | 10, _ => by kernel_rfl
  | 11, _ => by kernel_rfl
  | 12, _ => by kernel_rfl
  | 13, _ => by kernel_rfl
  | 14, _ => by kernel_rfl
  | 15, _ => by kernel_rfl
  | n + 16, h => absurd h (by omega)
set_option maxRecDepth 100000 in
theorem Try.infR' : ∃ i, Try.prog.info? 63 = some i := info_of_underlying Try.underlying63
set_option maxRecDepth 100000 in
theorem Try.cellR : Try.prog.cellsOf 63 = 5 := by kernel_rfl
set_option maxRecDepth 100000 in
theorem run_eqBk (d : Nat) (T T' : Nat → Int) (W : World) : (Op.equalIn (d + 4) 93 (blkV T) (blkV T')).run Try.prog W = .ok (eqN 80 T T') W := by
  obtain ⟨i, hi⟩ := Try.infR'
  rw [run_equalIn_array W (d + 3) _ _ Try.undB hi, Try.cellR, run_items (fun i => decide (((T (i * 5), T (i * 5 + 1), T (i * 5 + 2), T (i * 5 + 3), T (i * 5 + 4)) : SR) = (T' (i * 5), T' (i * 5 + 1), T' (i * 5 + 2), T' (i * 5 + 3), T' (i * 5 + 4)))) W (List.range 16) (fun i hi => ⟨_, _, prt_rowB T W i (List.mem_range.1 hi), prt_rowB T' W i (List.mem_range.1 hi), run_eqRn d _ _ W⟩)]
  congr 1
  refine Bool.iffEq ?_
  rw [eqN_iff]
  simp only [List.all_eq_true, List.mem_range, decide_eq_true_eq, Prod.mk.injEq]
  constructor
  · intro h o ho
    obtain ⟨h0, h1, h2, h3, h4⟩ := h (o / 5) (by omega)
    have hr : o % 5 = 0 ∨ o % 5 = 1 ∨ o % 5 = 2 ∨ o % 5 = 3 ∨ o % 5 = 4 := by omega
    rcases hr with hr | hr | hr | hr | hr
    · rwa [show o / 5 * 5 = o by omega] at h0
    · rwa [show o / 5 * 5 + 1 = o by omega] at h1
    · rwa [show o / 5 * 5 + 2 = o by omega] at h2
    · rwa [show o / 5 * 5 + 3 = o by omega] at h3
    · rwa [show o / 5 * 5 + 4 = o by omega] at h4
  · intro h i hi
    exact ⟨h _ (by omega), h _ (by omega), h _ (by omega), h _ (by omega), h _ (by omega)⟩
theorem neq_blk (T T' : Nat → Int) (W : World) : (Go.binOp .neq 93 (blkV T) (blkV T')).run Try.prog W = .ok (.bool (!(eqN 80 T T'))) W := by
  rw [run_neq_struct, show (10000 : Nat) = 9996 + 4 from rfl, run_eqBk]
  rfl
/-- Rows copied: so many as there are, or as there is room for. -/
theorem run_copy_s {P : Program} (w : World) (dT sT ty elem : TypeId) (s m b o dLen dCap : Nat) (a : Addr) (sLen sCap : Nat) (cs : List Value)
    (hu : P.underlying dT = some (.slice elem)) (hs : (P.info? elem).map (·.size) = some s) (hm : Nat.min sLen dLen = m) (hn : cs.length = m * s)
    (hsrc : ∀ j v, cs[j]? = some v → w.cell? (a.add j) = some v) (hc : ∀ j, j < cs.length → (w.cell? ⟨b, o + j, none⟩).isSome = true) (hf : ∀ j, j < cs.length → w.frozen? ⟨b, o + j, none⟩ = false) (h1 : ∀ v ∈ cs, v.oneCell' = true) :
    (Builtin.copy_ #[dT, sT] ty #[.slice (some ⟨b, o, none⟩) dLen dCap, .slice (some a) sLen sCap]).run P w = .ok (goInt m) (w.setCells b o cs) := by
  have hl := run_loadCells_list (P := P) w a cs hsrc
  have hst := run_storeCells_cells (P := P) b o cs 0 w (by simpa using hc) (by simpa using hf) h1
  cases hq : P.info? elem with
  | none => simp [hq] at hs
  | some i =>
    have hi : i.size = s := by simpa [hq] using hs
    simp [Builtin.copy_, run_underlying hu, Builtin.lenOf, Builtin.firstCells, sizeOf, typeInfo, hq, hi, hm, ← hn, hl, hst]
end Go.Proofs.Ythgoopdekllanaa
