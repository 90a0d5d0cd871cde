/- Clients: whether there is a table, and its numbers, in a row of cells; read, held against each other. -/
import Derived.Test.YthgoopdekllanaaTbE
namespace Go.Proofs.Ythgoopdekllanaa
open Go.RowKit Go.Shelf
open SumM

/-- A client's cells. -/
def cliL (h : Bool) (T : Nat → Int) : List Value := .bool h :: numL 65 T
theorem cliL_len (h : Bool) (T : Nat → Int) : (cliL h T).length = 66 := by simp [cliL, numL_len]
theorem cliL_one (h : Bool) (T : Nat → Int) : ∀ v ∈ cliL h T, v.oneCell' = true := by
  intro v hv
  rcases List.mem_cons.1 hv with rfl | hv
  · rfl
  · exact numL_one 65 T v hv
theorem cliL_all (h : Bool) (T : Nat → Int) : (cliL h T).toArray.all (·.oneCell') = true := all_oneCell_toArray (cliL_one h T)
abbrev cliV (h : Bool) (T : Nat → Int) : Value := .agg (cliL h T).toArray
theorem cliL_congr {h : Bool} {T T' : Nat → Int} (e : ∀ o, o < 65 → T o = T' o) : cliL h T = cliL h T' := by
  unfold cliL
  rw [numL_congr e]
/-- A block holds a client. -/
abbrev CB (b : Nat) (h : Bool) (T : Nat → Int) (w : World) : Prop := w.heap[b]? = some (.cells (cliL h T).toArray 45 (0, 0))
theorem cb_has {w : World} {b : Nat} {h : Bool} {T : Nat → Int} (k : CB b h T w) : w.cell? ⟨b, 0, none⟩ = some (.bool h) := by
  rw [cell_of_row _ _ _ _ _ _ k]
  rfl
theorem cb_num {w : World} {b : Nat} {h : Bool} {T : Nat → Int} (k : CB b h T w) {o : Nat} (ho : o < 65) : w.cell? ⟨b, 1 + o, none⟩ = some (.int .i64 (T o)) := by
  rw [cell_of_row _ _ _ _ _ _ k]
  have := numL_get T ho
  simpa [cliL, Nat.add_comm 1 o] using this
theorem cb_ver {w : World} {b : Nat} {h : Bool} {T : Nat → Int} (k : CB b h T w) : w.cell? ⟨b, 1, none⟩ = some (.int .i64 (T 0)) := cb_num k (o := 0) (by omega)
theorem cb_frozen {w : World} {b : Nat} {h : Bool} {T : Nat → Int} (k : CB b h T w) (o : Nat) : w.frozen? ⟨b, o, none⟩ = false := by simp [World.frozen?, k]
theorem cb_range {w : World} {b : Nat} {h : Bool} {T : Nat → Int} (k : CB b h T w) (o : Nat) {m : Nat} {S : Nat → Int} (hm : o + m ≤ 65) (hS : ∀ i, i < m → S i = T (o + i)) : w.rangeAt b (1 + o) (numL m S) := by
  intro j v hv
  have hj : j < m := by
    have := (List.getElem?_eq_some_iff.1 hv).1
    rwa [numL_len] at this
  rw [numL_get S hj] at hv
  rw [show 1 + o + j = 1 + (o + j) by omega, cb_num k (by omega), ← hS j hj]
  exact hv
theorem cb_there {w : World} {b : Nat} {h : Bool} {T : Nat → Int} (k : CB b h T w) : w.there b 0 66 := fun j hj => ⟨by
  rcases Nat.eq_zero_or_pos j with rfl | hp
  · rw [show (0 : Nat) + 0 = 0 from rfl, cb_has k]
    rfl
  · rw [show 0 + j = 1 + (j - 1) by omega, cb_num k (by omega)]
    rfl, cb_frozen k _⟩

theorem Try.undC : Try.prog.underlying 45 = some (.struct (Try.prog.fieldsOf 45)) := by kernel_rfl
theorem Try.sizC : (Try.prog.info? 45).map (·.size) = some 66 := by kernel_rfl
theorem nm_ldC (x : Value) : Instr.loadAt 45 x = ldS 45 x := rfl
theorem nm_stC (x v : Value) : Instr.storeAt 45 x v = stS 45 x v := rfl
theorem nm_buC (ps : Array (Nat × Value)) : Instr.build 45 ps = buS 45 ps := rfl
theorem ld_cli {w : World} {b : Nat} {h : Bool} {T : Nat → Int} (k : CB b h T w) : (ldS 45 (.pointer (some ⟨b, 0, none⟩))).run Try.prog w = .ok (cliV h T) w :=
  run_loadAt_mid w b 0 _ _ _ (rangeAt_row k) Try.undC rfl (by rw [cliL_len]; exact Try.sizC)
theorem ld_ctab {w : World} {b : Nat} {h : Bool} {T : Nat → Int} (k : CB b h T w) : (ldS 26 (.pointer (some ⟨b, 1, none⟩))).run Try.prog w = .ok (tabV T) w :=
  run_loadAt_mid w b 1 _ _ _ (cb_range k 0 (by omega) (fun i _ => by rw [Nat.zero_add])) Try.undT rfl (by rw [numL_len]; exact Try.sizT)
theorem st_cli {w : World} {b : Nat} {h : Bool} {T : Nat → Int} (k : CB b h T w) (h' : Bool) (S : Nat → Int) : (stS 45 (.pointer (some ⟨b, 0, none⟩)) (cliV h' S)).run Try.prog w = .ok () (w.setCells b 0 (cliL h' S)) :=
  run_storeAt_mid w b 0 _ _ (by rw [List.size_toArray, cliL_len]; exact cb_there k) (by rw [List.size_toArray, cliL_len]; exact Try.sizC) (cliL_all _ _)
theorem cb_full {w : World} {b : Nat} {h : Bool} {T : Nat → Int} (k : CB b h T w) (h' : Bool) (S : Nat → Int) : CB b h' S (w.setCells b 0 (cliL h' S)) :=
  full_setCells k (cliL h' S) (by simp [cliL_len])
theorem cb_congr {w : World} {b : Nat} {h : Bool} {T T' : Nat → Int} (k : CB b h T w) (e : ∀ o, o < 65 → T o = T' o) : CB b h T' w := by
  unfold CB at *
  rw [← cliL_congr e]
  exact k
set_option maxRecDepth 100000 in
theorem zero_cli (w : World) : (zeroValue 45).run Try.prog w = .ok (cliV false zeroT) w := by kernel_rfl
set_option maxRecDepth 100000 in
theorem buS_cli0 (w : World) : (buS 45 #[]).run Try.prog w = .ok (cliV false zeroT) w := by kernel_rfl
set_option maxRecDepth 100000 in
theorem buS_cliT (T : Nat → Int) (w : World) : (buS 45 #[(1, tabV T)]).run Try.prog w = .ok (cliV false T) w := by kernel_rfl
set_option maxRecDepth 100000 in
theorem buS_cli (h : Bool) (T : Nat → Int) (w : World) : (buS 45 #[(0, .bool h), (1, tabV T)]).run Try.prog w = .ok (cliV h T) w := by kernel_rfl
set_option maxRecDepth 100000 in
theorem fld_has (h : Bool) (T : Nat → Int) (W : World) : (Instr.field 45 (cliV h T) 0).run Try.prog W = .ok (.bool h) W := by kernel_rfl
set_option maxRecDepth 100000 in
theorem fld_ctab (h : Bool) (T : Nat → Int) (W : World) : (Instr.field 45 (cliV h T) 1).run Try.prog W = .ok (tabV T) W := by kernel_rfl

set_option maxRecDepth 100000 in
theorem Try.fldsC : ∃ f0 f1 : Field, (Try.prog.fieldsOf 45).toList = [f0, f1] ∧ f0.name = "Has" ∧ f0.type = 4 ∧ f0.offset = 0 ∧ f1.name = "Table" ∧ f1.type = 26 ∧ f1.offset = 1 := ⟨_, _, rfl, rfl, rfl, rfl, rfl, rfl, rfl⟩
set_option maxRecDepth 100000 in
theorem prt_has (h : Bool) (T : Nat → Int) (W : World) : (part 4 (cliL h T).toArray 0).run Try.prog W = .ok (.bool h) W := by kernel_rfl
set_option maxRecDepth 100000 in
theorem prt_ctab (h : Bool) (T : Nat → Int) (W : World) : (part 26 (cliL h T).toArray 1).run Try.prog W = .ok (tabV T) W := by kernel_rfl
theorem eqN_split (T T' : Nat → Int) : eqN 65 T T' = (T 0 == T' 0 && eqN 64 (fun k => T (1 + k)) (fun k => T' (1 + k))) := by
  refine Bool.iffEq ?_
  rw [Bool.and_eq_true, eqN_iff, eqN_iff, beq_iff_eq]
  constructor
  · intro h
    exact ⟨h 0 (by omega), fun o ho => h (1 + o) (by omega)⟩
  · intro h o ho
    rcases Nat.eq_zero_or_pos o with rfl | h0
    · exact h.1
    · have := h.2 (o - 1) (by omega)
      simpa [show 1 + (o - 1) = o by omega] using this
set_option maxRecDepth 100000 in
theorem run_eqT' (d : Nat) (T T' : Nat → Int) (W : World) : (Op.equalIn (d + 4) 26 (tabV T) (tabV T')).run Try.prog W = .ok (eqN 65 T T') W := by
  obtain ⟨f0, f1, hf, h1, h2, h3, h4, h5, h6⟩ := Try.fldsT
  rw [run_equalIn_struct W (d + 3) _ _ _ Try.undT (by kernel_rfl), hf]
  have e1 : (Op.equalIn (d + 3) 3 (.int .i64 (T 0)) (.int .i64 (T' 0))).run Try.prog W = .ok (T 0 == T' 0) W := run_equalIn_int W (d + 2) 3 .i64 .i64 _ _ (by kernel_rfl)
  have e2 : (Op.equalIn (d + 3) 24 (rowsV T) (rowsV T')).run Try.prog W = _ := run_eqA' d (fun k => T (1 + k)) (fun k => T' (1 + k)) W
  simp only [Op.eqFields, h1, h2, h3, h4, h5, h6, ne_eq, String.reduceEq, not_false_eq_true, if_true, Sem.run_bind, prt_ver, Result.andThen_ok, e1]
  rw [eqN_split]
  cases h0 : (T 0 == T' 0)
  · simp
  · simp only [Bool.not_true, Bool.false_eq_true, if_false, Sem.run_bind, prt_rows, Result.andThen_ok, e2]
    cases h9 : eqN 64 (fun k => T (1 + k)) (fun k => T' (1 + k)) <;> simp
/-- Are two clients the same? -/
def eqC (h : Bool) (T : Nat → Int) (h' : Bool) (T' : Nat → Int) : Bool := (h == h') && eqN 65 T T'
theorem eqC_iff {h h' : Bool} {T T' : Nat → Int} : eqC h T h' T' = true ↔ h = h' ∧ ∀ o, o < 65 → T o = T' o := by
  simp [eqC, eqN_iff]
theorem eqC_refl (h : Bool) (T : Nat → Int) : eqC h T h T = true := eqC_iff.2 ⟨rfl, fun _ _ => rfl⟩
set_option maxRecDepth 100000 in
theorem run_eqC (h : Bool) (T : Nat → Int) (h' : Bool) (T' : Nat → Int) (W : World) : (Op.equalIn 10000 45 (cliV h T) (cliV h' T')).run Try.prog W = .ok (eqC h T h' T') W := by
  obtain ⟨f0, f1, hf, h1, h2, h3, h4, h5, h6⟩ := Try.fldsC
  rw [show (10000 : Nat) = 9999 + 1 from rfl, run_equalIn_struct W 9999 _ _ _ Try.undC (by kernel_rfl), hf]
  have e1 : (Op.equalIn 9999 4 (.bool h) (.bool h')).run Try.prog W = .ok (h == h') W := by
    cases h <;> cases h' <;> go_simp
  have e2 : (Op.equalIn 9999 26 (tabV T) (tabV T')).run Try.prog W = _ := run_eqT' 9995 T T' W
  simp only [Op.eqFields, h1, h2, h3, h4, h5, h6, ne_eq, String.reduceEq, not_false_eq_true, if_true, Sem.run_bind, prt_has, Result.andThen_ok, e1]
  unfold eqC
  cases h0 : (h == h')
  · simp
  · simp only [Bool.not_true, Bool.false_eq_true, if_false, Sem.run_bind, prt_ctab, Result.andThen_ok, e2]
    cases h9 : eqN 65 T T' <;> simp
/-- '==' and '!=' of two clients. -/
theorem eql_cli (h : Bool) (T : Nat → Int) (h' : Bool) (T' : Nat → Int) (W : World) : (Go.binOp .eql 45 (cliV h T) (cliV h' T')).run Try.prog W = .ok (.bool (eqC h T h' T')) W := by
  rw [run_eql_struct, run_eqC]
  rfl
theorem neq_cli (h : Bool) (T : Nat → Int) (h' : Bool) (T' : Nat → Int) (W : World) : (Go.binOp .neq 45 (cliV h T) (cliV h' T')).run Try.prog W = .ok (.bool (!(eqC h T h' T'))) W := by
  rw [run_neq_struct, run_eqC]
  rfl

/-- What a client's parts tell: whether it may be, its version. -/
def rgC (h : Bool) (T : Nat → Int) : Bool := if h = true then rgT T else eqN 65 T zeroT
def hasC (h : Bool) (T : Nat → Int) : Int := if h = true then T 0 else -1
end Go.Proofs.Ythgoopdekllanaa
