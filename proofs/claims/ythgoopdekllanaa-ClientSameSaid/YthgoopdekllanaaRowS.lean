/- Slices of structs, whatever the struct: u's cells are 'C u', s of them. They read as a list; those of the call's own; appended to. Nothing of the program is imported. -/
import Derived.Test.YthgoopdekllanaaCore
namespace Go.Proofs.Ythgoopdekllanaa
open Go.RowKit Go.Shelf

/-- The cells of many. -/
def flatS {α : Type} (C : α → List Value) (us : List α) : List Value := us.flatMap C
theorem flatS_append {α : Type} (C : α → List Value) (a b : List α) : flatS C (a ++ b) = flatS C a ++ flatS C b := by simp [flatS]
theorem flatS_length {α : Type} {C : α → List Value} {s : Nat} (hC : ∀ u, (C u).length = s) (us : List α) : (flatS C us).length = us.length * s := by
  induction us with
  | nil => simp [flatS]
  | cons u r ih =>
    rw [show flatS C (u :: r) = C u ++ flatS C r from rfl, List.length_append, hC, ih, List.length_cons, Nat.succ_mul]
    omega
theorem flatS_get {α : Type} {C : α → List Value} {s : Nat} (hC : ∀ u, (C u).length = s) (us : List α) (j r : Nat) (hj : j < us.length) (hr : r < s) : (flatS C us)[j * s + r]? = (C us[j])[r]? := by
  induction us generalizing j with
  | nil => simp at hj
  | cons u t ih =>
    rw [show flatS C (u :: t) = C u ++ flatS C t from rfl]
    rcases j with _ | j
    · rw [List.getElem?_append_left (by rw [hC]; omega)]
      simp
    · rw [List.getElem?_append_right (by rw [hC, Nat.succ_mul]; omega), show (j + 1) * s + r - (C u).length = j * s + r by rw [hC, Nat.succ_mul]; omega, ih j (by simpa using hj)]
      simp
theorem flatS_one {α : Type} {C : α → List Value} (h1 : ∀ u, ∀ v ∈ C u, v.oneCell' = true) (us : List α) : ∀ v ∈ flatS C us, v.oneCell' = true := by
  intro v hv
  simp only [flatS, List.mem_flatMap] at hv
  obtain ⟨u, _, hv⟩ := hv
  exact h1 u v hv

/-- A slice of structs reads so, in memory below B. -/
def SRow {α : Type} (C : α → List Value) (s B : Nat) (w : World) (a : Option Addr) (us : List α) : Prop :=
  0 < us.length → ∃ b off, a = some ⟨b, off, none⟩ ∧ b < B ∧ ∀ j (hj : j < us.length) r v, (C us[j])[r]? = some v → w.cell? ⟨b, off + j * s + r, none⟩ = some v
theorem SRow.below {α : Type} {C : α → List Value} {s B : Nat} {w w' : World} {a : Option Addr} {us : List α} (h : SRow C s B w a us) (hb : Below B w w') : SRow C s B w' a us := fun hl => by
  obtain ⟨b, off, e, hB, hc⟩ := h hl
  exact ⟨b, off, e, hB, fun j hj r v hv => (hb.cell hB).trans (hc j hj r v hv)⟩
theorem SRow.more {α : Type} {C : α → List Value} {s B B' : Nat} {w : World} {a : Option Addr} {us : List α} (h : SRow C s B w a us) (hB : B ≤ B') : SRow C s B' w a us := fun hl => by
  obtain ⟨b, off, e, h1, hc⟩ := h hl
  exact ⟨b, off, e, Nat.lt_of_lt_of_le h1 hB, hc⟩
theorem SRow.nil {α : Type} (C : α → List Value) (s B : Nat) (w : World) (a : Option Addr) : SRow C s B w a [] := fun h => absurd h (by simp)
theorem SRow.one {α : Type} {C : α → List Value} {s : Nat} (w : World) (t : TypeId) (u : α) : SRow C s (w.heap.size + 1) (w.alloc (.cells (C u).toArray t)) (some ⟨w.heap.size, 0, none⟩) [u] := fun _ => by
  refine ⟨w.heap.size, 0, rfl, by omega, fun j hj r v hv => ?_⟩
  obtain rfl : j = 0 := by simpa using hj
  rw [cell_of_row _ _ _ _ _ _ (heap_alloc_new w _)]
  simpa using hv
theorem SRow.cells {α : Type} {C : α → List Value} {s : Nat} (hC : ∀ u, (C u).length = s) (hs : 0 < s) {B : Nat} {w : World} {ad : Addr} {us : List α} (h : SRow C s B w (some ad) us) : ∀ j u, (flatS C us)[j]? = some u → w.cell? (ad.add j) = some u := by
  intro j u hu
  have hj : j < us.length * s := by
    rw [← flatS_length hC]
    exact (List.getElem?_eq_some_iff.1 hu).1
  have hl : 0 < us.length := by
    rcases Nat.eq_zero_or_pos us.length with h0 | h0
    · rw [h0] at hj; simp at hj
    · exact h0
  obtain ⟨b, off, hA, _, hc⟩ := h hl
  injection hA with hA
  subst hA
  rw [addr_add]
  have e : j = (j / s) * s + j % s := by
    have := Nat.div_add_mod j s
    rw [Nat.mul_comm] at this
    omega
  have hq : j / s < us.length := Nat.div_lt_of_lt_mul (by rw [Nat.mul_comm]; exact hj)
  rw [e, flatS_get hC us (j / s) (j % s) hq (Nat.mod_lt j hs)] at hu
  have := hc (j / s) hq (j % s) u hu
  rwa [show off + (j / s) * s + j % s = off + j by omega] at this

theorem ownS_below {w w' : World} {base s : Nat} {e : TypeId} {v : Value} {n : Nat} {xs : List Value} (h : w.ownsRow base e s v n xs) (hb : Below w.heap.size w w') : w'.ownsRow base e s v n xs := by
  refine h.kept (row := none) ⟨hb.os, hb.tape, hb.output, hb.size, fun i hi _ => hb.block i hi⟩ ?_
  rcases v.ownBlock with _ | x
  · exact .inl rfl
  · exact .inr (by simp)
theorem ownS_form {w : World} {base s : Nat} {e : TypeId} {v : Value} {n : Nat} {xs : List Value} (h : w.ownsRow base e s v n xs) (hn : 0 < n) : ∃ g cap, v = .slice (some ⟨g, 0, none⟩) n cap ∧ base ≤ g ∧ n ≤ cap ∧ cap ≤ maxLen := by
  rcases h.2 with ⟨_, h0⟩ | ⟨g, cap, cur, hv, hb, _, h1, h2, _⟩
  · omega
  · exact ⟨g, cap, hv, hb, h1, h2⟩
theorem ownS_base {w : World} {base b' s : Nat} {e : TypeId} {v : Value} {n : Nat} {xs : List Value} (h : w.ownsRow base e s v n xs) (hb : b' ≤ base) : w.ownsRow b' e s v n xs := by
  refine ⟨h.1, ?_⟩
  rcases h.2 with h0 | ⟨g, cap, cur, hv, h1, h2⟩
  · exact .inl h0
  · exact .inr ⟨g, cap, cur, hv, Nat.le_trans hb h1, h2⟩
/-- Structs of the call's own read as what it owns. -/
theorem SRow.of_own {α : Type} {C : α → List Value} {s : Nat} (hC : ∀ u, (C u).length = s) (hs : 0 < s) {w : World} {base : Nat} {e : TypeId} {a : Option Addr} {n c : Nat} {us : List α} (h : w.ownsRow base e s (.slice a n c) n (flatS C us)) : SRow C s w.heap.size w a us := fun hl => by
  have hn : us.length = n := by
    have := h.1
    rw [flatS_length hC] at this
    exact Nat.eq_of_mul_eq_mul_right hs this
  obtain ⟨g, cap, hv, _, hlt⟩ := h.form (by omega)
  have hA : a = some ⟨g, 0, none⟩ := by injection hv
  subst hA
  refine ⟨g, 0, rfl, hlt, fun j hj r v hv => ?_⟩
  have hr : r < s := by
    rw [← hC us[j]]
    exact (List.getElem?_eq_some_iff.1 hv).1
  have := h.cells (g := g) rfl (j * s + r) v (by rw [flatS_get hC us j r hj hr]; exact hv)
  rw [addr_add] at this
  rwa [show 0 + j * s + r = 0 + (j * s + r) by omega]

/-- 'append(s, x...)', s the call's own structs, x structs: nil, empty or not. -/
theorem wpList_append_srow {α : Type} {C : α → List Value} {sz : Nat} (hC : ∀ u, (C u).length = sz) (h1 : ∀ u, ∀ v ∈ C u, v.oneCell' = true) (hsz : 0 < sz) {P : Program} (w : World) {ops : Array Oper} {rest : List Oper} {o : Oper} {a : Act} {Q : Exit → Act → World → Prop} (hgd : o.guard = none) (s x : Operand) (t : TypeId)
    (ho : o.op = .call { callee := .builtin .append, args := #[s, x], argTypes := #[t, t] })
    (base : Nat) (e : TypeId) (i : TypeInfo) (z : Value) (bytes : Nat) (ht : P.underlying t = some (.slice e)) (hi : P.info? e = some i) (hz : i.zero = some z)
    (hsize : i.size = sz) (hby : i.bytes = bytes) (hzs : z.cells.size = sz)
    (v : Value) (n : Nat) (us : List α) (hs : a.eval s = v) (hown : w.ownsRow base e sz v n (flatS C us))
    (B : Nat) (A : Option Addr) (m c : Nat) (zs : List α) (hx : a.eval x = .slice A m c) (hl : zs.length = m) (hr : SRow C sz B w A zs) (hnil : A = none → c = 0)
    (h63 : n + m ≤ maxLen) (hbytes : (n + m) * bytes ≤ 140737488355328) (hbase : base ≤ w.heap.size)
    (h : ∀ v' w', w'.ownsRow base e sz v' (n + m) (flatS C (us ++ zs)) → w.grownBy w' v.ownBlock → wpList P ops Q rest (a.put o.dst v') w') : wpList P ops Q (o :: rest) a w := by
  rcases A with _ | ad
  · have hm : m = 0 := by
      rcases Nat.eq_zero_or_pos m with h0 | h0
      · exact h0
      · obtain ⟨b, off, hA, _⟩ := hr (by omega)
        cases hA
    subst hm
    obtain rfl := hnil rfl
    obtain rfl : zs = [] := List.eq_nil_of_length_eq_zero hl
    refine wpList_append_own_none hgd s x t ho base e i sz ht hi v n _ hs hown hx ?_
    exact h v w (by simpa using hown) (World.grownBy.refl w _)
  · refine wpList_append_own w hgd s x t ho base e i z sz bytes ht hi hz hsize hby hzs hsz v n _ hs hown ad m c (flatS C zs) hx (by rw [flatS_length hC, hl]) (hr.cells hC hsz) (flatS_one h1 zs) h63 hbytes hbase fun v' w' h2 h3 _ => h v' w' ?_ h3
    rw [flatS_append]
    exact h2
end Go.Proofs.Ythgoopdekllanaa
