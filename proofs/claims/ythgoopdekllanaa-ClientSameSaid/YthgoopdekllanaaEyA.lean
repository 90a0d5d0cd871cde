/- Entries: what they are; Right, None, Newer, Moving, backend, of package entry and the document's own. -/
import Derived.Test.YthgoopdekllanaaRowS
import Derived.Deep.DeepCutAuto
import Derived.Deep.RegionHeldLaw
import Derived.Deep.DrawnRows
namespace Go.Proofs.Ythgoopdekllanaa
open Go.RowKit Go.Shelf
open SumM

/-- A 64-bit number. -/
def I64 (n : Int) : Prop := -9223372036854775808 ≤ n ∧ n ≤ 9223372036854775807
/-- An entry, as numbers. -/
abbrev Ent := Int × Int × Int × Int
structure Ent.ok (u : Ent) : Prop where
  h1 : I64 u.1
  h2 : I64 u.2.1
  h3 : I64 u.2.2.1
  h4 : I64 u.2.2.2
abbrev noEnt : Ent := (-1, -1, 0, 0)
abbrev ent0 : Ent := (0, 0, 0, 0)
def entC (u : Ent) : List Value := [.int .i64 u.1, .int .i64 u.2.1, .int .i64 u.2.2.1, .int .i64 u.2.2.2]
theorem entC_len (u : Ent) : (entC u).length = 4 := rfl
theorem entC_one (u : Ent) : ∀ v ∈ entC u, v.oneCell' = true := by
  intro v hv
  simp [entC] at hv
  rcases hv with rfl | rfl | rfl | rfl <;> rfl
theorem ent_cells {w : World} {b : Nat} (ec ep eg et : Int) (h : w.heap[b]? = some (.cells #[.int .i64 ec, .int .i64 ep, .int .i64 eg, .int .i64 et] 23 (0, 0))) :
    w.cell? ⟨b, 0, none⟩ = some (.int .i64 ec) ∧ w.cell? ⟨b, 1, none⟩ = some (.int .i64 ep) ∧ w.cell? ⟨b, 2, none⟩ = some (.int .i64 eg) ∧ w.cell? ⟨b, 3, none⟩ = some (.int .i64 et) := by
  refine ⟨?_, ?_, ?_, ?_⟩ <;> (rw [cell_of_row _ _ _ _ _ _ h]; rfl)
theorem ent_frozen {w : World} {b : Nat} {cs : Array Value} {t : TypeId} (h : w.heap[b]? = some (.cells cs t (0, 0))) (i : Nat) : w.frozen? ⟨b, i, none⟩ = false := by simp [World.frozen?, h]

/-- A backend's number, or nobody's. -/
def bkN (n : Int) : Bool := decide (-1 ≤ n) && decide (n < 6)
/-- Whether an entry may be. -/
def rgt (ec ep eg et : Int) : Bool := bkN ec && bkN ep && (decide (0 ≤ eg) && decide (eg < 2147483648) && decide (0 ≤ et) && decide (et ≤ 1099511627776)) && (decide (ep = -1) || (!decide (ec = -1) && !decide (ec = ep)))
theorem bkN_iff {n : Int} : bkN n = true ↔ -1 ≤ n ∧ n < 6 := by
  unfold bkN
  simp only [Bool.and_eq_true, decide_eq_true_eq]
theorem rgt_iff {ec ep eg et : Int} : rgt ec ep eg et = true ↔ (-1 ≤ ec ∧ ec < 6) ∧ (-1 ≤ ep ∧ ep < 6) ∧ (0 ≤ eg ∧ eg < 2147483648) ∧ (0 ≤ et ∧ et ≤ 1099511627776) ∧ (ep = -1 ∨ (ec ≠ -1 ∧ ec ≠ ep)) := by
  unfold rgt
  simp only [Bool.and_eq_true, Bool.or_eq_true, Bool.not_eq_true', decide_eq_true_eq, decide_eq_false_iff_not, bkN_iff]
  omega

theorem Bool.iffEq {a b : Bool} (h : a = true ↔ b = true) : a = b := by
  cases a <;> cases b <;> simp_all

set_option maxRecDepth 100000 in
theorem ebackend_any (n : Int) (w : World) : Calls Try.prog 72 #[.int .i64 n] w fun e w' => e = .returned (.bool (bkN n)) ∧ w = w' := by
  have EX : ∃ p1 p2 : Bool, decide (-1 ≤ n) = p1 ∧ decide (n < 6) = p2 ∧ bkN n = (p1 && p2) := ⟨_, _, rfl, rfl, rfl⟩
  obtain ⟨p1, p2, e1, e2, he⟩ := EX
  have HE := Lib.hid he
  clear he
  go_enter Try.func72, Try.ntmps72
  cases p1
  · go_wp2
    go_ret
    exact ⟨ret_bool HE.out.symm, rfl⟩
  cases p2
  · go_wp2
    go_ret
    exact ⟨ret_bool HE.out.symm, rfl⟩
  go_wp2
  go_ret
  exact ⟨ret_bool HE.out.symm, rfl⟩

/-- The document's: a backend's number. -/
def bk6 (n : Int) : Bool := decide (0 ≤ n) && decide (n < 6)
set_option maxRecDepth 100000 in
theorem r9backend_any (n : Int) (w : World) : Calls Try.prog 74 #[.int .i64 n] w fun e w' => e = .returned (.bool (bk6 n)) ∧ w = w' := by
  have EX : ∃ p1 p2 : Bool, decide (0 ≤ n) = p1 ∧ decide (n < 6) = p2 ∧ bk6 n = (p1 && p2) := ⟨_, _, rfl, rfl, rfl⟩
  obtain ⟨p1, p2, e1, e2, he⟩ := EX
  have HE := Lib.hid he
  clear he
  go_enter Try.func74, Try.ntmps74
  cases p1
  · go_wp2
    go_ret
    exact ⟨ret_bool HE.out.symm, rfl⟩
  cases p2
  · go_wp2
    go_ret
    exact ⟨ret_bool HE.out.symm, rfl⟩
  go_wp2
  go_ret
  exact ⟨ret_bool HE.out.symm, rfl⟩

theorem Try.infoEnt : (Try.prog.info? 23).map (fun i => (i.zero, i.size, i.bytes)) = some (some (.agg #[.int .i64 0, .int .i64 0, .int .i64 0, .int .i64 0]), 4, 32) := by kernel_rfl
theorem Try.infoEntS : (Try.prog.info? 23).map (·.size) = some 4 := by kernel_rfl
theorem results_ent {fn : Func} {p : Tmp} (h : fn.results = #[.cell p 23]) (tmps : Array Value) (w : World) (g : Nat) (cs : Array Value) (fr : Nat × Nat)
    (hp : tmps.getD p undef = .pointer (some ⟨g, 0, none⟩)) (hg : w.heap[g]? = some (.cells cs 23 fr)) (h9 : cs.size = 4) :
    (results fn tmps).run Try.prog w = .ok (.agg cs) w := by
  exact results_cell_row h tmps w g 23 cs fr _ hp hg Try.underlying23 rfl (by rw [h9]; exact Try.infoEntS)

set_option maxRecDepth 100000 in
theorem eNone_any (w : World) : Calls Try.prog 81 #[] w fun e w' => e = .returned (.agg #[.int .i64 (-1), .int .i64 (-1), .int .i64 0, .int .i64 0]) ∧ Below w.heap.size w w' := by
  have bE := Lib.hid (heap_alloc_new w (.cells #[.int .i64 (-1), .int .i64 (-1), .int .i64 0, .int .i64 0] 23))
  have L0 := Lib.hid ((Below.refl w.heap.size w).alloc (Nat.le_refl _) (.cells #[.int .i64 (-1), .int .i64 (-1), .int .i64 0, .int .i64 0] 23))
  go_enter Try.func81, Try.ntmps81
  go_wp2
  exact bodyPost_ret (results_ent rfl _ _ w.heap.size _ (0, 0) rfl bE.out rfl) rfl ⟨rfl, L0.out⟩

set_option maxRecDepth 100000 in
theorem r9None_any (w : World) : Calls Try.prog 62 #[] w fun e w' => e = .returned (.agg #[.int .i64 (-1), .int .i64 (-1), .int .i64 0, .int .i64 0]) ∧ Below w.heap.size w w' := by
  have bE := Lib.hid (heap_alloc_new w (.cells #[.int .i64 (-1), .int .i64 (-1), .int .i64 0, .int .i64 0] 23))
  have L0 := Lib.hid ((Below.refl w.heap.size w).alloc (Nat.le_refl _) (.cells #[.int .i64 (-1), .int .i64 (-1), .int .i64 0, .int .i64 0] 23))
  go_enter Try.func62, Try.ntmps62
  go_wp2
  exact bodyPost_ret (results_ent rfl _ _ w.heap.size _ (0, 0) rfl bE.out rfl) rfl ⟨rfl, L0.out⟩

set_option maxRecDepth 100000 in
theorem eMoving_any (ec ep eg et : Int) (w : World) : Calls Try.prog 73 #[.agg #[.int .i64 ec, .int .i64 ep, .int .i64 eg, .int .i64 et]] w fun e w' => e = .returned (.bool (ep != -1)) ∧ Below w.heap.size w w' := by
  have L0 := (Below.refl w.heap.size w).alloc (Nat.le_refl _) (.cells #[.int .i64 ec, .int .i64 ep, .int .i64 eg, .int .i64 et] 23)
  go_enter Try.func73, Try.ntmps73
  go_wp2
  go_ret
  exact ⟨rfl, L0⟩

set_option maxRecDepth 100000 in
theorem eNewer_any (ec ep eg et : Int) (ec' ep' eg' et' : Int) (w : World) : Calls Try.prog 83 #[.agg #[.int .i64 ec, .int .i64 ep, .int .i64 eg, .int .i64 et], .agg #[.int .i64 ec', .int .i64 ep', .int .i64 eg', .int .i64 et']] w fun e w' => e = .returned (.bool (decide (eg' < eg))) ∧ Below w.heap.size w w' := by
  have L0 := ((Below.refl w.heap.size w).alloc (Nat.le_refl _) (.cells #[.int .i64 ec, .int .i64 ep, .int .i64 eg, .int .i64 et] 23)).alloc (by simp) (.cells #[.int .i64 ec', .int .i64 ep', .int .i64 eg', .int .i64 et'] 23)
  go_enter Try.func83, Try.ntmps83
  go_wp2
  go_ret
  exact ⟨rfl, L0⟩

set_option maxRecDepth 100000 in
theorem r9Newer_any (ec ep eg et : Int) (ec' ep' eg' et' : Int) (w : World) : Calls Try.prog 78 #[.agg #[.int .i64 ec, .int .i64 ep, .int .i64 eg, .int .i64 et], .agg #[.int .i64 ec', .int .i64 ep', .int .i64 eg', .int .i64 et']] w fun e w' => e = .returned (.bool (decide (eg' < eg))) ∧ Below w.heap.size w w' := by
  have L0 := ((Below.refl w.heap.size w).alloc (Nat.le_refl _) (.cells #[.int .i64 ec, .int .i64 ep, .int .i64 eg, .int .i64 et] 23)).alloc (by simp) (.cells #[.int .i64 ec', .int .i64 ep', .int .i64 eg', .int .i64 et'] 23)
  go_enter Try.func78, Try.ntmps78
  go_wp2
  go_ret
  exact ⟨rfl, L0⟩

set_option maxRecDepth 100000 in
set_option maxHeartbeats 8000000 in
theorem eRight_any (ec ep eg et : Int) (w : World) : Calls Try.prog 54 #[.agg #[.int .i64 ec, .int .i64 ep, .int .i64 eg, .int .i64 et]] w fun e w' => e = .returned (.bool (rgt ec ep eg et)) ∧ Below w.heap.size w w' := by
  have bE := heap_alloc_new w (.cells #[.int .i64 ec, .int .i64 ep, .int .i64 eg, .int .i64 et] 23)
  have L0 := Lib.hid ((Below.refl w.heap.size w).alloc (Nat.le_refl _) (.cells #[.int .i64 ec, .int .i64 ep, .int .i64 eg, .int .i64 et] 23))
  have EX : ∃ bc bp g1 g2 t1 t2 m c1 c2 : Bool, bkN ec = bc ∧ bkN ep = bp ∧ decide (eg < 0) = g1 ∧ decide ((2147483648 : Int) ≤ eg) = g2 ∧ decide (et < 0) = t1 ∧ decide ((1099511627776 : Int) < et) = t2 ∧ (ep != -1) = m ∧ (ec != -1) = c1 ∧ (ec != ep) = c2 ∧
      rgt ec ep eg et = (bc && bp && !g1 && !g2 && !t1 && !t2 && (!m || (c1 && c2))) := by
    refine ⟨_, _, _, _, _, _, _, _, _, rfl, rfl, rfl, rfl, rfl, rfl, rfl, rfl, rfl, Bool.iffEq ?_⟩
    rw [rgt_iff]
    simp only [Bool.and_eq_true, Bool.or_eq_true, Bool.not_eq_true', decide_eq_false_iff_not, bne_iff_ne, bne_eq_false_iff_eq, bkN_iff, ne_eq]
    omega
  obtain ⟨bc, bp, g1, g2, t1, t2, m, c1, c2, e1, e2, e3, e4, e5, e6, e7, e8, e9, he⟩ := EX
  have HE := Lib.hid he
  have KC := Lib.hid (fun W => e1 ▸ ebackend_any ec W)
  have KP := Lib.hid (fun W => e2 ▸ ebackend_any ep W)
  have KM := Lib.hid (fun W => e7 ▸ eMoving_any ec ep eg et W)
  obtain ⟨q0, q1, q2, q3⟩ := ent_cells _ _ _ _ bE
  clear he e1 e2 e7
  go_enter Try.func54, Try.ntmps54
  go_upto_region 1 with (fail)
  generalize w.alloc (.cells #[.int .i64 ec, .int .i64 ep, .int .i64 eg, .int .i64 et] 23) = W0 at *
  cases bc
  · go_wp2_with (first | (go_at_call 72; refine (KC.out _).mono ?_; rintro e w1 ⟨rfl, rfl⟩))
    go_ret
    exact ⟨ret_bool HE.out.symm, L0.out⟩
  cases bp
  · go_wp2_with (first | (go_at_call 72; (with_reducible refine (KC.out _).mono ?_); rintro e w1 ⟨rfl, rfl⟩) | (go_at_call 72; (with_reducible refine (KP.out _).mono ?_); rintro e w1 ⟨rfl, rfl⟩))
    go_ret
    exact ⟨ret_bool HE.out.symm, L0.out⟩
  go_upto_region 3 with (first | (go_at_call 72; (with_reducible refine (KC.out _).mono ?_); rintro e w1 ⟨rfl, rfl⟩) | (go_at_call 72; (with_reducible refine (KP.out _).mono ?_); rintro e w1 ⟨rfl, rfl⟩))
  cases g1
  rotate_left
  · go_wp2
    go_ret
    exact ⟨ret_bool HE.out.symm, L0.out⟩
  cases g2
  rotate_left
  · go_wp2
    go_ret
    exact ⟨ret_bool HE.out.symm, L0.out⟩
  cases t1
  rotate_left
  · go_wp2
    go_ret
    exact ⟨ret_bool HE.out.symm, L0.out⟩
  cases t2
  rotate_left
  · go_wp2
    go_ret
    exact ⟨ret_bool HE.out.symm, L0.out⟩
  cases m
  · go_wp2_with (go_at_call 73; (with_reducible refine (KM.out _).mono ?_); rintro e w1 ⟨rfl, m1⟩)
    go_ret
    exact ⟨ret_bool HE.out.symm, L0.out.trans (m1.mono L0.out.size)⟩
  go_wp2_with fail
  refine (KM.out _).mono ?_
  rintro e w1 ⟨rfl, m1⟩
  have L1 := Lib.hid (L0.out.trans (m1.mono L0.out.size))
  have bE1 := (m1.block _ (Array.getElem?_eq_some_iff.1 bE).1).trans bE
  clear q0 q1 q2 q3 bE m1
  obtain ⟨q0, q1, q2, q3⟩ := ent_cells _ _ _ _ bE1
  clear bE1
  cases c1
  · go_wp2
    go_ret
    exact ⟨ret_bool HE.out.symm, L1.out⟩
  cases c2
  all_goals
    go_wp2
    go_ret
    exact ⟨ret_bool HE.out.symm, L1.out⟩

set_option maxRecDepth 100000 in
set_option maxHeartbeats 8000000 in
theorem r9Right_any (ec ep eg et : Int) (w : World) : Calls Try.prog 55 #[.agg #[.int .i64 ec, .int .i64 ep, .int .i64 eg, .int .i64 et]] w fun e w' => e = .returned (.bool (rgt ec ep eg et)) ∧ Below w.heap.size w w' := by
  have bE := heap_alloc_new w (.cells #[.int .i64 ec, .int .i64 ep, .int .i64 eg, .int .i64 et] 23)
  have L0 := Lib.hid ((Below.refl w.heap.size w).alloc (Nat.le_refl _) (.cells #[.int .i64 ec, .int .i64 ep, .int .i64 eg, .int .i64 et] 23))
  have EX : ∃ g1 g2 t1 t2 c1 p1 bc bp n1 : Bool, decide (eg < 0) = g1 ∧ decide ((2147483648 : Int) ≤ eg) = g2 ∧ decide (et < 0) = t1 ∧ decide ((1099511627776 : Int) < et) = t2 ∧ (ec == -1) = c1 ∧ (ep == -1) = p1 ∧ bk6 ec = bc ∧ bk6 ep = bp ∧ (ep != ec) = n1 ∧
      rgt ec ep eg et = (!g1 && !g2 && !t1 && !t2 && (if c1 = true then p1 else (bc && (p1 || (bp && n1))))) := by
    refine ⟨_, _, _, _, _, _, _, _, _, rfl, rfl, rfl, rfl, rfl, rfl, rfl, rfl, rfl, Bool.iffEq ?_⟩
    rw [rgt_iff]
    by_cases h : ec = -1
    · subst h
      simp
      omega
    · rw [if_neg (by simpa using h)]
      simp only [Bool.and_eq_true, Bool.or_eq_true, Bool.not_eq_true', decide_eq_false_iff_not, decide_eq_true_eq, bne_iff_ne, beq_iff_eq, bk6, ne_eq]
      omega
  obtain ⟨g1, g2, t1, t2, c1, p1, bc, bp, n1, e1, e2, e3, e4, e5, e6, e7, e8, e9, he⟩ := EX
  have HE := Lib.hid he
  have KC := Lib.hid (fun W => e7 ▸ r9backend_any ec W)
  have KP := Lib.hid (fun W => e8 ▸ r9backend_any ep W)
  obtain ⟨q0, q1, q2, q3⟩ := ent_cells _ _ _ _ bE
  clear he e7 e8
  go_enter Try.func55, Try.ntmps55
  go_upto_region 1 with (fail)
  generalize w.alloc (.cells #[.int .i64 ec, .int .i64 ep, .int .i64 eg, .int .i64 et] 23) = W0 at *
  cases g1
  rotate_left
  · go_wp2
    go_ret
    exact ⟨ret_bool HE.out.symm, L0.out⟩
  cases g2
  rotate_left
  · go_wp2
    go_ret
    exact ⟨ret_bool HE.out.symm, L0.out⟩
  cases t1
  rotate_left
  · go_wp2
    go_ret
    exact ⟨ret_bool HE.out.symm, L0.out⟩
  cases t2
  rotate_left
  · go_wp2
    go_ret
    exact ⟨ret_bool HE.out.symm, L0.out⟩
  cases c1
  rotate_left
  · cases p1
    all_goals
      go_wp2
      go_ret
      exact ⟨ret_bool HE.out.symm, L0.out⟩
  cases bc
  · go_wp2_with (go_at_call 74; (with_reducible refine (KC.out _).mono ?_); rintro e w1 ⟨rfl, rfl⟩)
    go_ret
    exact ⟨ret_bool HE.out.symm, L0.out⟩
  cases p1
  rotate_left
  · go_wp2_with (go_at_call 74; (with_reducible refine (KC.out _).mono ?_); rintro e w1 ⟨rfl, rfl⟩)
    go_ret
    exact ⟨ret_bool HE.out.symm, L0.out⟩
  cases bp
  · go_wp2_with (first | (go_at_call 74; (with_reducible refine (KC.out _).mono ?_); rintro e w1 ⟨rfl, rfl⟩) | (go_at_call 74; (with_reducible refine (KP.out _).mono ?_); rintro e w1 ⟨rfl, rfl⟩))
    go_ret
    exact ⟨ret_bool HE.out.symm, L0.out⟩
  cases n1
  all_goals
    go_wp2_with (first | (go_at_call 74; (with_reducible refine (KC.out _).mono ?_); rintro e w1 ⟨rfl, rfl⟩) | (go_at_call 74; (with_reducible refine (KP.out _).mono ?_); rintro e w1 ⟨rfl, rfl⟩))
    go_ret
    exact ⟨ret_bool HE.out.symm, L0.out⟩
end Go.Proofs.Ythgoopdekllanaa
