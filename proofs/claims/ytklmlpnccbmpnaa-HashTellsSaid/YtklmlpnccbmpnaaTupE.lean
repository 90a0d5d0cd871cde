/- Slices of tuples of the call's own; tuples sorted. -/
import Derived.Test.YtklmlpnccbmpnaaTupD
namespace Go.Proofs.Ytklmlpnccbmpnaa
open Go.RowKit Go.Shelf
open SumM

/-- A tuple's four cells; those of many. -/
def tupC (u : Tup) : List Value := [.int .u32 u.1, .int .u32 u.2.1, .int .u16 u.2.2.1, .int .u16 u.2.2.2]
def flatT (us : List Tup) : List Value := us.flatMap tupC
theorem flatT_length (us : List Tup) : (flatT us).length = us.length * 4 := by
  induction us with
  | nil => rfl
  | cons u r ih =>
    simp only [flatT, List.flatMap_cons, List.length_append] at *
    rw [ih]
    simp [tupC]
    omega
theorem flatT_get (us : List Tup) (j r : Nat) (hj : j < us.length) (hr : r < 4) : (flatT us)[j * 4 + r]? = (tupC (us[j]?.getD tup0))[r]? := by
  induction us generalizing j with
  | nil => simp at hj
  | cons u t ih =>
    rw [show flatT (u :: t) = tupC u ++ flatT t from rfl]
    rcases j with _ | j
    · rw [List.getElem?_append_left (by simp [tupC]; omega)]
      simp
    · rw [List.getElem?_append_right (by simp [tupC]; omega), show (j + 1) * 4 + r - (tupC u).length = j * 4 + r by simp [tupC]; omega, ih j (by simpa using hj)]
      simp
theorem flatT_append (a b : List Tup) : flatT (a ++ b) = flatT a ++ flatT b := by simp [flatT]
theorem flatT_one (us : List Tup) : ∀ v ∈ flatT us, v.oneCell' = true := by
  intro v hv
  simp only [flatT, List.mem_flatMap, tupC] at hv
  obtain ⟨u, _, hv⟩ := hv
  simp at hv
  rcases hv with rfl | rfl | rfl | rfl <;> rfl

theorem own4_below {w w' : World} {base : Nat} {e : TypeId} {v : Value} {n : Nat} {xs : List Value} (h : w.ownsRow base e 4 v n xs) (hb : Below w.heap.size w w') : w'.ownsRow base e 4 v n xs := by
  refine h.kept (row := none) ⟨hb.os, hb.tape, hb.output, hb.size, fun i hi _ => hb.block i hi⟩ ?_
  rcases v.ownBlock with _ | x
  · exact .inl rfl
  · exact .inr (by simp)
theorem own4_form {w : World} {base : Nat} {e : TypeId} {v : Value} {n : Nat} {xs : List Value} (h : w.ownsRow base e 4 v n xs) (hn : 0 < n) : ∃ g cap, v = .slice (some ⟨g, 0, none⟩) n cap ∧ base ≤ g ∧ n ≤ cap ∧ cap ≤ maxLen := by
  rcases h.2 with ⟨_, h0⟩ | ⟨g, cap, cur, hv, hb, _, h1, h2, _⟩
  · omega
  · exact ⟨g, cap, hv, hb, h1, h2⟩
theorem own4_base {w : World} {base b' : Nat} {e : TypeId} {v : Value} {n : Nat} {xs : List Value} (h : w.ownsRow base e 4 v n xs) (hb : b' ≤ base) : w.ownsRow b' e 4 v n xs := by
  refine ⟨h.1, ?_⟩
  rcases h.2 with h0 | ⟨g, cap, cur, hv, h1, h2⟩
  · exact .inl h0
  · exact .inr ⟨g, cap, cur, hv, Nat.le_trans hb h1, h2⟩
/-- Tuples of the call's own read as what it owns. -/
theorem TRow.of_own {w : World} {base : Nat} {e : TypeId} {a : Option Addr} {n c : Nat} {us : List Tup} (h : w.ownsRow base e 4 (.slice a n c) n (flatT us)) (hw : ∀ u ∈ us, Tup.ok u) : TRow w.heap.size w a us := by
  refine ⟨hw, fun hl => ?_⟩
  have hn : us.length = n := by have := h.1; rw [flatT_length] at this; omega
  obtain ⟨g, cap, hv, _, hlt⟩ := h.form (by omega)
  have hA : a = some ⟨g, 0, none⟩ := by injection hv
  subst hA
  have K : ∀ j, j < us.length → ∀ r, r < 4 → ∀ v, (tupC (us[j]?.getD tup0))[r]? = some v → w.cell? ⟨g, 0 + j * 4 + r, none⟩ = some v := by
    intro j hj r hr v hv
    have := h.cells (g := g) rfl (j * 4 + r) v (by rw [flatT_get us j r hj hr]; exact hv)
    have e : (⟨g, 0, none⟩ : Addr).add (j * 4 + r) = ⟨g, 0 + j * 4 + r, none⟩ := by rw [addr_add]; congr 1; omega
    rwa [e] at this
  exact ⟨g, 0, rfl, hlt, fun j hj => ⟨K j hj 0 (by decide) _ rfl, K j hj 1 (by decide) _ rfl, K j hj 2 (by decide) _ rfl, K j hj 3 (by decide) _ rfl⟩⟩
theorem TRow.more {B B' : Nat} {w : World} {a : Option Addr} {us : List Tup} (h : TRow B w a us) (hB : B ≤ B') : TRow B' w a us :=
  ⟨h.1, fun hl => by
    obtain ⟨b, off, e, h1, hc⟩ := h.2 hl
    exact ⟨b, off, e, Nat.lt_of_lt_of_le h1 hB, hc⟩⟩
theorem TRow.take {B : Nat} {w : World} {a : Option Addr} {us : List Tup} (h : TRow B w a us) (i : Nat) : TRow B w a (us.take i) := by
  refine ⟨fun u hu => h.1 u (List.mem_of_mem_take hu), fun hl => ?_⟩
  simp at hl
  obtain ⟨b, off, e, hb, hc⟩ := h.2 (by omega)
  refine ⟨b, off, e, hb, fun j hj => ?_⟩
  simp at hj
  have := hc j (by omega)
  rw [List.getElem?_take_of_lt (by omega)]
  exact this
theorem TRow.drop {B : Nat} {w : World} {b off : Nat} {us : List Tup} (h : TRow B w (some ⟨b, off, none⟩) us) (i : Nat) : TRow B w (some ⟨b, off + i * 4, none⟩) (us.drop i) := by
  refine ⟨fun u hu => h.1 u (List.mem_of_mem_drop hu), fun hl => ?_⟩
  simp at hl
  obtain ⟨b', off', e, hb, hc⟩ := h.2 (by omega)
  injection e with e
  injection e with e1 e2
  subst e1 e2
  refine ⟨b, off + i * 4, rfl, hb, fun j hj => ?_⟩
  simp at hj
  have := hc (i + j) (by omega)
  rw [show off + (i + j) * 4 = off + i * 4 + j * 4 by omega] at this
  simpa using this
theorem TRow.nil (B : Nat) (w : World) (a : Option Addr) : TRow B w a [] := ⟨by simp, fun h => absurd h (by simp)⟩
theorem TRow.dropIf {B : Nat} {w : World} {b off : Nat} {us : List Tup} (h : TRow B w (some ⟨b, off, none⟩) us) (i : Nat) {c : Prop} [Decidable c] (hc : c → us.drop i = []) : TRow B w (if c then some ⟨b, off, none⟩ else some ⟨b, off + i * 4, none⟩) (us.drop i) := by
  split
  · rw [hc (by assumption)]
    exact TRow.nil _ _ _
  · exact h.drop i
theorem trow_cells {B : Nat} {w : World} {ad : Addr} {us : List Tup} (h : TRow B w (some ad) us) : ∀ j u, (flatT us)[j]? = some u → w.cell? (ad.add j) = some u := by
  intro j u hu
  have hj : j < us.length * 4 := by
    rw [← flatT_length]
    exact (List.getElem?_eq_some_iff.1 hu).1
  obtain ⟨b, off, hA, _, hc⟩ := h.2 (by omega)
  injection hA with hA
  subst hA
  rw [addr_add]
  have e : j = (j / 4) * 4 + j % 4 := by omega
  rw [e, flatT_get us (j / 4) (j % 4) (by omega) (by omega)] at hu
  obtain ⟨c0, c1, c2, c3⟩ := hc (j / 4) (by omega)
  have h4 : j % 4 = 0 ∨ j % 4 = 1 ∨ j % 4 = 2 ∨ j % 4 = 3 := by omega
  rw [show off + j = off + (j / 4) * 4 + j % 4 by omega]
  rcases h4 with h4 | h4 | h4 | h4 <;> rw [h4] at hu ⊢ <;> (simp only [tupC] at hu; injection hu with hu; subst hu; assumption)

/-- 'append(s, x...)', s the call's own tuples, x tuples: nil, empty or not. -/
theorem wpList_append_trow {P : Program} (w : World) {ops : Array Oper} {rest : List Oper} {o : Oper} {a : Act} {Q : Exit → Act → World → Prop} (hgd : o.guard = none) (s x : Operand) (t : TypeId)
    (ho : o.op = .call { callee := .builtin .append, args := #[s, x], argTypes := #[t, t] })
    (base : Nat) (e : TypeId) (i : TypeInfo) (z : Value) (bytes : Nat) (ht : P.underlying t = some (.slice e)) (hi : P.info? e = some i) (hz : i.zero = some z)
    (hsize : i.size = 4) (hby : i.bytes = bytes) (hzs : z.cells.size = 4)
    (v : Value) (n : Nat) (us : List Tup) (hs : a.eval s = v) (hown : w.ownsRow base e 4 v n (flatT us))
    (B : Nat) (A : Option Addr) (m c : Nat) (zs : List Tup) (hx : a.eval x = .slice A m c) (hl : zs.length = m) (hr : TRow B w A zs) (hnil : A = none → c = 0)
    (h63 : n + m ≤ maxLen) (hbytes : (n + m) * bytes ≤ 140737488355328) (hbase : base ≤ w.heap.size)
    (h : ∀ v' w', w'.ownsRow base e 4 v' (n + m) (flatT (us ++ zs)) → w.grownBy w' v.ownBlock → wpList P ops Q rest (a.put o.dst v') w') : wpList P ops Q (o :: rest) a w := by
  rcases A with _ | ad
  · have hm : m = 0 := by
      rcases Nat.eq_zero_or_pos m with h0 | h0
      · exact h0
      · obtain ⟨b, off, hA, _⟩ := hr.2 (by omega)
        cases hA
    subst hm
    obtain rfl := hnil rfl
    obtain rfl : zs = [] := List.eq_nil_of_length_eq_zero hl
    refine wpList_append_own_none hgd s x t ho base e i 4 ht hi v n _ hs hown hx ?_
    exact h v w (by simpa using hown) (World.grownBy.refl w _)
  · refine wpList_append_own w hgd s x t ho base e i z 4 bytes ht hi hz hsize hby hzs (by decide) v n _ hs hown ad m c (flatT zs) hx (by rw [flatT_length, hl]) (trow_cells hr) (flatT_one zs) h63 hbytes hbase fun v' w' h2 h3 _ => h v' w' ?_ h3
    rw [flatT_append]
    exact h2
theorem Try.infoTup4 : (Try.prog.info? 26).map (fun i => (i.zero, i.size, i.bytes)) = some (some (.agg #[.int .u32 0, .int .u32 0, .int .u16 0, .int .u16 0]), 4, 12) := by kernel_rfl

/-- The order of two tuples; where a tuple goes; tuples sorted. -/
def cmpT (a b : Tup) : Int := cmpU a.1 a.2.1 a.2.2.1 a.2.2.2 b.1 b.2.1 b.2.2.1 b.2.2.2
def kOf (u : Tup) (us : List Tup) : Nat → Nat
  | 0 => 0
  | k + 1 => if cmpT u (us[k]?.getD tup0) < 0 then kOf u us k else k + 1
def insT (us : List Tup) (u : Tup) : List Tup := us.take (kOf u us us.length) ++ [u] ++ us.drop (kOf u us us.length)
def sortT (us : List Tup) : List Tup := us.foldl insT []
theorem kOf_le (u : Tup) (us : List Tup) (n : Nat) : kOf u us n ≤ n := by
  induction n with
  | zero => simp [kOf]
  | succ n ih =>
    simp only [kOf]
    split <;> omega
theorem insT_length (us : List Tup) (u : Tup) : (insT us u).length = us.length + 1 := by
  have := kOf_le u us us.length
  simp [insT]
  omega
theorem foldl_insT_length (us out : List Tup) : (us.foldl insT out).length = out.length + us.length := by
  induction us generalizing out with
  | nil => simp
  | cons u r ih =>
    simp only [List.foldl_cons, List.length_cons]
    rw [ih, insT_length]
    omega
theorem sortT_length (us : List Tup) : (sortT us).length = us.length := by simp [sortT, foldl_insT_length]
theorem insT_mem {us : List Tup} {u x : Tup} (h : x ∈ insT us u) : x ∈ us ∨ x = u := by
  simp only [insT, List.mem_append, List.mem_singleton] at h
  rcases h with (h | h) | h
  · exact .inl (List.mem_of_mem_take h)
  · exact .inr h
  · exact .inl (List.mem_of_mem_drop h)
theorem foldl_insT_mem {us out : List Tup} {x : Tup} (h : x ∈ us.foldl insT out) : x ∈ out ∨ x ∈ us := by
  induction us generalizing out with
  | nil => exact .inl h
  | cons u r ih =>
    rcases ih h with h | h
    · rcases insT_mem h with h | h
      · exact .inl h
      · exact .inr (by simp [h])
    · exact .inr (by simp [h])
theorem sortT_ok {us : List Tup} (h : ∀ u ∈ us, Tup.ok u) : ∀ u ∈ sortT us, Tup.ok u := by
  intro u hu
  rcases foldl_insT_mem hu with h0 | h0
  · simp at h0
  · exact h u h0
theorem sortT_snoc (us : List Tup) (k : Nat) (hk : k < us.length) : sortT (us.take (k + 1)) = insT (sortT (us.take k)) (us[k]?.getD tup0) := by
  rw [List.take_add_one, show us[k]?.toList = [us[k]?.getD tup0] by simp [hk]]
  simp [sortT]
end Go.Proofs.Ytklmlpnccbmpnaa
