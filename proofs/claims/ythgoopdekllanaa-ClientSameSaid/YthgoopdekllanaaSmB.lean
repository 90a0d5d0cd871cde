/- Changes, pairs of numbers that came in, opened. -/
import Derived.Test.YthgoopdekllanaaEyL
import Derived.Deep.Slices
import Derived.Stop.LaidErr
import Derived.Lib.LaidTab
namespace Go.Proofs.Ythgoopdekllanaa
open Go.RowKit Go.Joins Go.ChangeShapes Go.WideShapes Go.ChangeAt Go.Deep
open SumM

/-- The cells of one. -/
abbrev Chg := Int × Int × Int
def chgC (u : Chg) : List Value := [.int .i64 u.1, .int .i64 u.2.1, .int .i64 u.2.2]
theorem chgC_len (u : Chg) : (chgC u).length = 3 := rfl
def Chg.ok (u : Chg) : Prop := I64 u.1 ∧ I64 u.2.1 ∧ I64 u.2.2
/-- Those that came in. -/
structure IsCRow (w : World) (a : Option Addr) (len cap : Nat) (us : List Chg) : Prop where
  row : SRow chgC 3 w.heap.size w a us
  ok : ∀ u ∈ us, Chg.ok u
  hl : us.length = len
  hn : a = none → cap = 0
  hc : len ≤ cap ∧ cap ≤ maxLen
theorem chgC_at {B b off : Nat} {w : World} {us : List Chg} (h : SRow chgC 3 B w (some ⟨b, off, none⟩) us) (k : Nat) (hk : k < us.length) :
    w.cell? ⟨b, off + k * 3, none⟩ = some (.int .i64 (us[k]?.getD (0, 0, 0)).1) ∧ w.cell? ⟨b, off + k * 3 + 1, none⟩ = some (.int .i64 (us[k]?.getD (0, 0, 0)).2.1) ∧ w.cell? ⟨b, off + k * 3 + 2, none⟩ = some (.int .i64 (us[k]?.getD (0, 0, 0)).2.2) := by
  obtain ⟨b', off', e, _, hc⟩ := h (by omega)
  injection e with e
  injection e with e1 e2
  subst e1 e2
  rw [List.getElem?_eq_getElem hk]
  exact ⟨hc k hk 0 _ rfl, hc k hk 1 _ rfl, hc k hk 2 _ rfl⟩
section
variable {H : Type} {enc : TypeId × Value → H} {w : World} {base : Nat} {spare : Nat → Bool} {held : Bool}
set_option maxRecDepth 100000 in
theorem chg_of_trod {cs : List Value} {r : DataW H} {p : List MemPlace} {n : Nat} (hsz : cs.length = 3) (hf : DataW.trod enc Try.prog w base spare held n 98 cs = some (r, p)) :
    ∃ u : Chg, cs = chgC u ∧ Chg.ok u := by
  match cs, hsz with
  | [c0, c1, c2], _ =>
    obtain ⟨xs, n, _, hx, _, hlen, hg⟩ := DataW.trod_struct Try.underlying98 hf
    have zi64 : Try.prog.cellsOf 3 = 1 := by kernel_rfl
    match xs, hlen with
    | [y0, y1, y2], _ =>
      have g0 : DataW.trod enc Try.prog w base spare held n 3 [c0] = some y0 := by simpa [Value.cells, zi64] using hg 0 _ rfl
      have g1 : DataW.trod enc Try.prog w base spare held n 3 [c1] = some y1 := by simpa [Value.cells, zi64] using hg 1 _ rfl
      have g2 : DataW.trod enc Try.prog w base spare held n 3 [c2] = some y2 := by simpa [Value.cells, zi64] using hg 2 _ rfl
      obtain ⟨n0, e0, _, w0⟩ := DataW.trod_int Try.underlying3 g0
      obtain ⟨n1, e1, _, w1⟩ := DataW.trod_int Try.underlying3 g1
      obtain ⟨n2, e2, _, w2⟩ := DataW.trod_int Try.underlying3 g2
      simp only [List.cons.injEq, and_true] at e0 e1 e2
      subst e0 e1 e2
      exact ⟨(n0, n1, n2), rfl, wf_i64.1 w0, wf_i64.1 w1, wf_i64.1 w2⟩

set_option maxRecDepth 100000 in
theorem open_changes {r : Reach} {b0 : Nat} {v : Value} {d : DataW H} {p : List MemPlace} (hsp : ∀ b, spare b = true) (hv : Value.okWide Try.prog w r b0 55 v) (h : DataW.Trod enc Try.prog w base spare held 55 v d p) :
    ∃ (a : Option Addr) (len cap : Nat) (us : List Chg), v = .slice a len cap ∧ IsCRow w a len cap us := by
  obtain ⟨a, len, cap, rfl⟩ := okWide_slice Try.underlying55 hv
  obtain ⟨fuel, hf⟩ := h
  have hC : Try.prog.cellsOf 98 = 3 := by kernel_rfl
  rcases open_slice Try.underlying55 hf with ⟨hcs, _⟩ | ⟨ad, l, c, m, n, D, Pl, hcs, hb, hl, hm, hmm, hx, hi⟩
  · simp [Value.cells] at hcs
    obtain ⟨rfl, rfl, rfl⟩ := hcs
    exact ⟨none, 0, 0, [], rfl, ⟨SRow.nil _ _ _ _ _, by simp, rfl, fun _ => rfl, Nat.le_refl _, Nat.zero_le _⟩⟩
  · simp [Value.cells] at hcs
    obtain ⟨rfl, rfl, rfl⟩ := hcs
    have hml : len ≤ m := by rw [hmm, if_pos (hsp _)]; exact hl
    have K : ∀ i, i < len → ∃ u : Chg, Chg.ok u ∧ w.cell? (ad.add (i * 3)) = some (.int .i64 u.1) ∧ w.cell? (ad.add (i * 3 + 1)) = some (.int .i64 u.2.1) ∧ w.cell? (ad.add (i * 3 + 2)) = some (.int .i64 u.2.2) := by
      intro i hil
      obtain ⟨cs', hc, ht'⟩ := hi i (by omega)
      rw [hC] at hc
      obtain ⟨_, hcl, hat⟩ := World.cells?_some hc
      obtain ⟨u, rfl, hu⟩ := chg_of_trod hcl ht'
      have q0 := hat 0 (by decide)
      have q1 := hat 1 (by decide)
      have q2 := hat 2 (by decide)
      rw [Go.Deep.add_add] at q0 q1 q2
      exact ⟨u, hu, q0, q1, q2⟩
    rcases Nat.eq_zero_or_pos len with h0 | h0
    · subst h0
      exact ⟨some ad, 0, cap, [], rfl, ⟨SRow.nil _ _ _ _ _, by simp, rfl, (fun h => by cases h), hl, hm⟩⟩
    obtain ⟨b, off, spot⟩ := ad
    have hs : spot = none := by
      obtain ⟨_, _, c0, _⟩ := K 0 h0
      simpa [Addr.add] using World.cell?_spot c0
    subst hs
    obtain ⟨f, hf⟩ := Classical.axiomOfChoice (fun i => show ∃ u : Chg, i < len → Chg.ok u ∧ w.cell? ⟨b, off + i * 3, none⟩ = some (.int .i64 u.1) ∧ w.cell? ⟨b, off + (i * 3 + 1), none⟩ = some (.int .i64 u.2.1) ∧ w.cell? ⟨b, off + (i * 3 + 2), none⟩ = some (.int .i64 u.2.2) from by
      by_cases h : i < len
      · obtain ⟨u, h1, q0, q1, q2⟩ := K i h
        rw [addr_add] at q0 q1 q2
        exact ⟨u, fun _ => ⟨h1, q0, q1, q2⟩⟩
      · exact ⟨(0, 0, 0), fun h2 => absurd h2 h⟩)
    refine ⟨_, len, cap, (List.range len).map f, rfl, ⟨fun _ => ⟨b, off, rfl, block_lt_of_cell (hf 0 h0).2.1, fun j hj r v hv => ?_⟩, fun u hu => ?_, by simp, (fun h => by cases h), hl, hm⟩⟩
    · have hj' : j < len := by simpa using hj
      obtain ⟨_, q0, q1, q2⟩ := hf j hj'
      simp only [List.getElem_map, List.getElem_range] at hv
      rw [Nat.add_assoc]
      match r, hv with
      | 0, hv => cases hv; exact q0
      | 1, hv => cases hv; exact q1
      | 2, hv => cases hv; exact q2
      | r + 3, hv => simp [chgC] at hv
    · obtain ⟨i, hi2, rfl⟩ := List.mem_map.1 hu
      exact (hf i (by simpa using hi2)).1
end

/-- The cells of one. -/
abbrev Pr := Int × Int
def prC (u : Pr) : List Value := [.int .i64 u.1, .int .i64 u.2]
theorem prC_len (u : Pr) : (prC u).length = 2 := rfl
def Pr.ok (u : Pr) : Prop := I64 u.1 ∧ I64 u.2
/-- Those that came in. -/
structure IsPRow (w : World) (a : Option Addr) (len cap : Nat) (us : List Pr) : Prop where
  row : SRow prC 2 w.heap.size w a us
  ok : ∀ u ∈ us, Pr.ok u
  hl : us.length = len
  hn : a = none → cap = 0
  hc : len ≤ cap ∧ cap ≤ maxLen
theorem prC_at {B b off : Nat} {w : World} {us : List Pr} (h : SRow prC 2 B w (some ⟨b, off, none⟩) us) (k : Nat) (hk : k < us.length) :
    w.cell? ⟨b, off + k * 2, none⟩ = some (.int .i64 (us[k]?.getD (0, 0)).1) ∧ w.cell? ⟨b, off + k * 2 + 1, none⟩ = some (.int .i64 (us[k]?.getD (0, 0)).2) := by
  obtain ⟨b', off', e, _, hc⟩ := h (by omega)
  injection e with e
  injection e with e1 e2
  subst e1 e2
  rw [List.getElem?_eq_getElem hk]
  exact ⟨hc k hk 0 _ rfl, hc k hk 1 _ rfl⟩
section
variable {H : Type} {enc : TypeId × Value → H} {w : World} {base : Nat} {spare : Nat → Bool} {held : Bool}
set_option maxRecDepth 100000 in
theorem pr_of_trod {cs : List Value} {r : DataW H} {p : List MemPlace} {n : Nat} (hsz : cs.length = 2) (hf : DataW.trod enc Try.prog w base spare held n 59 cs = some (r, p)) :
    ∃ u : Pr, cs = prC u ∧ Pr.ok u := by
  match cs, hsz with
  | [c0, c1], _ =>
    obtain ⟨xs, n, _, hx, _, hlen, hg⟩ := DataW.trod_array Try.underlying59 hf
    have zi64 : Try.prog.cellsOf 3 = 1 := by kernel_rfl
    match xs, hlen with
    | [y0, y1], _ =>
      have g0 : DataW.trod enc Try.prog w base spare held n 3 [c0] = some y0 := by simpa [Value.cells, zi64] using hg 0 (by decide)
      have g1 : DataW.trod enc Try.prog w base spare held n 3 [c1] = some y1 := by simpa [Value.cells, zi64] using hg 1 (by decide)
      obtain ⟨n0, e0, _, w0⟩ := DataW.trod_int Try.underlying3 g0
      obtain ⟨n1, e1, _, w1⟩ := DataW.trod_int Try.underlying3 g1
      simp only [List.cons.injEq, and_true] at e0 e1
      subst e0 e1
      exact ⟨(n0, n1), rfl, wf_i64.1 w0, wf_i64.1 w1⟩

set_option maxRecDepth 100000 in
theorem open_pairs {r : Reach} {b0 : Nat} {v : Value} {d : DataW H} {p : List MemPlace} (hsp : ∀ b, spare b = true) (hv : Value.okWide Try.prog w r b0 56 v) (h : DataW.Trod enc Try.prog w base spare held 56 v d p) :
    ∃ (a : Option Addr) (len cap : Nat) (us : List Pr), v = .slice a len cap ∧ IsPRow w a len cap us := by
  obtain ⟨a, len, cap, rfl⟩ := okWide_slice Try.underlying56 hv
  obtain ⟨fuel, hf⟩ := h
  have hC : Try.prog.cellsOf 59 = 2 := by kernel_rfl
  rcases open_slice Try.underlying56 hf with ⟨hcs, _⟩ | ⟨ad, l, c, m, n, D, Pl, hcs, hb, hl, hm, hmm, hx, hi⟩
  · simp [Value.cells] at hcs
    obtain ⟨rfl, rfl, rfl⟩ := hcs
    exact ⟨none, 0, 0, [], rfl, ⟨SRow.nil _ _ _ _ _, by simp, rfl, fun _ => rfl, Nat.le_refl _, Nat.zero_le _⟩⟩
  · simp [Value.cells] at hcs
    obtain ⟨rfl, rfl, rfl⟩ := hcs
    have hml : len ≤ m := by rw [hmm, if_pos (hsp _)]; exact hl
    have K : ∀ i, i < len → ∃ u : Pr, Pr.ok u ∧ w.cell? (ad.add (i * 2)) = some (.int .i64 u.1) ∧ w.cell? (ad.add (i * 2 + 1)) = some (.int .i64 u.2) := by
      intro i hil
      obtain ⟨cs', hc, ht'⟩ := hi i (by omega)
      rw [hC] at hc
      obtain ⟨_, hcl, hat⟩ := World.cells?_some hc
      obtain ⟨u, rfl, hu⟩ := pr_of_trod hcl ht'
      have q0 := hat 0 (by decide)
      have q1 := hat 1 (by decide)
      rw [Go.Deep.add_add] at q0 q1
      exact ⟨u, hu, q0, q1⟩
    rcases Nat.eq_zero_or_pos len with h0 | h0
    · subst h0
      exact ⟨some ad, 0, cap, [], rfl, ⟨SRow.nil _ _ _ _ _, by simp, rfl, (fun h => by cases h), hl, hm⟩⟩
    obtain ⟨b, off, spot⟩ := ad
    have hs : spot = none := by
      obtain ⟨_, _, c0, _⟩ := K 0 h0
      simpa [Addr.add] using World.cell?_spot c0
    subst hs
    obtain ⟨f, hf⟩ := Classical.axiomOfChoice (fun i => show ∃ u : Pr, i < len → Pr.ok u ∧ w.cell? ⟨b, off + i * 2, none⟩ = some (.int .i64 u.1) ∧ w.cell? ⟨b, off + (i * 2 + 1), none⟩ = some (.int .i64 u.2) from by
      by_cases h : i < len
      · obtain ⟨u, h1, q0, q1⟩ := K i h
        rw [addr_add] at q0 q1
        exact ⟨u, fun _ => ⟨h1, q0, q1⟩⟩
      · exact ⟨(0, 0), fun h2 => absurd h2 h⟩)
    refine ⟨_, len, cap, (List.range len).map f, rfl, ⟨fun _ => ⟨b, off, rfl, block_lt_of_cell (hf 0 h0).2.1, fun j hj r v hv => ?_⟩, fun u hu => ?_, by simp, (fun h => by cases h), hl, hm⟩⟩
    · have hj' : j < len := by simpa using hj
      obtain ⟨_, q0, q1⟩ := hf j hj'
      simp only [List.getElem_map, List.getElem_range] at hv
      rw [Nat.add_assoc]
      match r, hv with
      | 0, hv => cases hv; exact q0
      | 1, hv => cases hv; exact q1
      | r + 2, hv => simp [prC] at hv
    · obtain ⟨i, hi2, rfl⟩ := List.mem_map.1 hu
      exact (hf i (by simpa using hi2)).1
end
end Go.Proofs.Ythgoopdekllanaa
