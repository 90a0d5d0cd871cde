/- Tuples that came in, opened: one by value, a slice of them; what the row's listed tables give the walks. -/
import Derived.Test.YtpbheonapgckfaaDoorTupW
import Derived.Test.YtpbheonapgckfaaDoorGenL
import Derived.Deep.Slices
import Derived.Stop.LaidErr
import Derived.Lib.LaidTab
namespace Go.Proofs.YtpbheonapgckfaaDoor
open Go.RowKit Go.Joins Go.ChangeShapes Go.WideShapes Go.ChangeAt Go.Deep
open SumM

/-- Tuples that came in. -/
structure IsTRow (w : World) (a : Option Addr) (len cap : Nat) (us : List Tup) : Prop where
  row : TRow w.heap.size w a us
  hl : us.length = len
  hn : a = none → cap = 0
  hc : len ≤ cap ∧ cap ≤ maxLen

section
variable {H : Type} {enc : TypeId × Value → H} {w : World} {base : Nat} {spare : Nat → Bool} {held : Bool}
theorem tup_of_trod {fuel : Nat} {cs : List Value} {x : DataW H × List MemPlace} (hl : cs.length = 4) (hf : DataW.trod enc Tryd.prog w base spare held fuel 25 cs = some x) :
    ∃ ts td tp tq : Int, cs = [.int .u32 ts, .int .u32 td, .int .u16 tp, .int .u16 tq] ∧ UNums ts td tp tq := by
  match cs, hl with
  | [c0, c1, c2, c3], _ =>
    obtain ⟨xs, n, _, hx, _, hlen, hg⟩ := DataW.trod_struct Tryd.underlying25 hf
    have z1 : Tryd.prog.cellsOf 22 = 1 := by kernel_rfl
    have z2 : Tryd.prog.cellsOf 23 = 1 := by kernel_rfl
    match xs, hlen with
    | [y0, y1, y2, y3], _ =>
      have g0 : DataW.trod enc Tryd.prog w base spare held n 22 [c0] = some y0 := by simpa [z1, z2] using hg 0 _ rfl
      have g1 : DataW.trod enc Tryd.prog w base spare held n 22 [c1] = some y1 := by simpa [z1, z2] using hg 1 _ rfl
      have g2 : DataW.trod enc Tryd.prog w base spare held n 23 [c2] = some y2 := by simpa [z1, z2] using hg 2 _ rfl
      have g3 : DataW.trod enc Tryd.prog w base spare held n 23 [c3] = some y3 := by simpa [z1, z2] using hg 3 _ rfl
      obtain ⟨ts, e0, _, w0⟩ := DataW.trod_int Tryd.underlying22 g0
      obtain ⟨td, e1, _, w1⟩ := DataW.trod_int Tryd.underlying22 g1
      obtain ⟨tp, e2, _, w2⟩ := DataW.trod_int Tryd.underlying23 g2
      obtain ⟨tq, e3, _, w3⟩ := DataW.trod_int Tryd.underlying23 g3
      simp only [List.cons.injEq, and_true] at e0 e1 e2 e3
      subst e0 e1 e2 e3
      exact ⟨ts, td, tp, tq, rfl, ⟨wf_u32.1 w0, wf_u32.1 w1, wf_u16.1 w2, wf_u16.1 w3⟩⟩

set_option maxRecDepth 100000 in
theorem open_tuple {r : Reach} {b0 : Nat} {v : Value} {d : DataW H} {p : List MemPlace} (_hsp : ∀ b, spare b = true) (hv : Value.okWide Tryd.prog w r b0 25 v) (h : DataW.Trod enc Tryd.prog w base spare held 25 v d p) :
    ∃ (ts td tp tq : Int), v = .agg #[.int .u32 ts, .int .u32 td, .int .u16 tp, .int .u16 tq] ∧ UNums ts td tp tq := by
  have hC : Tryd.prog.cellsOf 25 = 4 := by kernel_rfl
  obtain ⟨cs, rfl, hsz⟩ := okWide_struct Tryd.underlying25 hv
  obtain ⟨l⟩ := cs
  obtain ⟨fuel, hf⟩ := h
  have hf' : DataW.trod enc Tryd.prog w base spare held fuel 25 l = some (d, p) := by simpa [Value.cells] using hf
  obtain ⟨ts, td, tp, tq, rfl, hu⟩ := tup_of_trod (by simpa using hsz.trans hC) hf'
  exact ⟨ts, td, tp, tq, rfl, hu⟩

set_option maxRecDepth 100000 in
theorem open_tuples {r : Reach} {b0 : Nat} {v : Value} {d : DataW H} {p : List MemPlace} (hsp : ∀ b, spare b = true) (hv : Value.okWide Tryd.prog w r b0 27 v) (h : DataW.Trod enc Tryd.prog w base spare held 27 v d p) :
    ∃ (a : Option Addr) (len cap : Nat) (us : List Tup), v = .slice a len cap ∧ IsTRow w a len cap us := by
  obtain ⟨a, len, cap, rfl⟩ := okWide_slice Tryd.underlying27 hv
  obtain ⟨fuel, hf⟩ := h
  have hC : Tryd.prog.cellsOf 25 = 4 := by kernel_rfl
  rcases open_slice Tryd.underlying27 hf with ⟨hcs, _⟩ | ⟨ad, l, c, m, n, D, Pl, hcs, hb, hl, hm, hmm, hx, hi⟩
  · simp [Value.cells] at hcs
    obtain ⟨rfl, rfl, rfl⟩ := hcs
    exact ⟨none, 0, 0, [], rfl, ⟨TRow.nil _ _ _, rfl, fun _ => rfl, Nat.le_refl _, Nat.zero_le _⟩⟩
  · simp [Value.cells] at hcs
    obtain ⟨rfl, rfl, rfl⟩ := hcs
    have hml : len ≤ m := by rw [hmm, if_pos (hsp _)]; exact hl
    have K : ∀ i, i < len → ∃ u : Tup, u.ok ∧ w.cell? (ad.add (i * 4)) = some (.int .u32 u.1) ∧ w.cell? (ad.add (i * 4 + 1)) = some (.int .u32 u.2.1) ∧ w.cell? (ad.add (i * 4 + 2)) = some (.int .u16 u.2.2.1) ∧ w.cell? (ad.add (i * 4 + 3)) = some (.int .u16 u.2.2.2) := by
      intro i hil
      obtain ⟨cs', hc, ht'⟩ := hi i (by omega)
      rw [hC] at hc
      obtain ⟨_, hcl, hat⟩ := World.cells?_some hc
      obtain ⟨ts, td, tp, tq, rfl, hu⟩ := tup_of_trod hcl ht'
      have q0 := hat 0 (by decide)
      have q1 := hat 1 (by decide)
      have q2 := hat 2 (by decide)
      have q3 := hat 3 (by decide)
      rw [Go.Deep.add_add] at q0 q1 q2 q3
      exact ⟨(ts, td, tp, tq), hu, q0, q1, q2, q3⟩
    rcases Nat.eq_zero_or_pos len with h0 | h0
    · subst h0
      exact ⟨some ad, 0, cap, [], rfl, ⟨TRow.nil _ _ _, rfl, (fun h => by cases h), hl, hm⟩⟩
    obtain ⟨b, off, spot⟩ := ad
    have hs : spot = none := by
      obtain ⟨_, _, c0, _⟩ := K 0 h0
      simpa [Addr.add] using World.cell?_spot c0
    subst hs
    obtain ⟨f, hf⟩ := Classical.axiomOfChoice (fun i => show ∃ u : Tup, i < len → u.ok ∧ w.cell? ⟨b, off + i * 4, none⟩ = some (.int .u32 u.1) ∧ w.cell? ⟨b, off + i * 4 + 1, none⟩ = some (.int .u32 u.2.1) ∧ w.cell? ⟨b, off + i * 4 + 2, none⟩ = some (.int .u16 u.2.2.1) ∧ w.cell? ⟨b, off + i * 4 + 3, none⟩ = some (.int .u16 u.2.2.2) from by
      by_cases h : i < len
      · obtain ⟨u, h1, q0, q1, q2, q3⟩ := K i h
        rw [addr_add] at q0 q1 q2 q3
        exact ⟨u, fun _ => ⟨h1, q0, q1, q2, q3⟩⟩
      · exact ⟨tup0, fun h2 => absurd h2 h⟩)
    refine ⟨_, len, cap, (List.range len).map f, rfl, ⟨⟨fun u hu => ?_, fun _ => ⟨b, off, rfl, ?_, fun j hj => ?_⟩⟩, by simp, (fun h => by cases h), hl, hm⟩⟩
    · obtain ⟨i, hi2, rfl⟩ := List.mem_map.1 hu
      exact (hf i (by simpa using hi2)).1
    · exact block_lt_of_cell (hf 0 h0).2.1
    · have hj' : j < len := by simpa using hj
      have e : ((List.range len).map f)[j]?.getD tup0 = f j := by simp [hj']
      rw [e]
      exact (hf j hj').2
end

/-- What the row lists. -/
def laidW : List (String × DataW Unit) := [("math/bits.deBruijn32tab", Rows.laid_math_bits_deBruijn32tab), ("math/bits.deBruijn64tab", Rows.laid_math_bits_deBruijn64tab), ("internal/strconv.uint64pow10", Rows.laid_internal_strconv_uint64pow10)]
theorem tTab : (Tryd.prog.globals[0]?).map (·.type) = some 108 := by kernel_rfl
set_option maxRecDepth 100000 in
theorem door_met (os : Os) (args : Array Value) : laidMetH Tryd.prog laidW ((World.doorLaid Tryd.prog 4000 os).forCall (fun _ _ => 0) ⟨#[], args, []⟩).memory :=
  laidMetH_of_parts3 (fuel := 8) (laidMet_of_run' 8 (by kernel_rfl) (by kernel_rfl)) (by kernel_rfl) (by kernel_rfl)
theorem laid_of_met {W : World} (h : laidMetH Tryd.prog laidW W) : Tab W := by
  rw [MakeChecks.laidMetH_plain _ _ _ (by kernel_rfl)] at h
  exact Lib.tabIs_of_head gTab tTab Tryd.underlying108 Tryd.underlying92 (by kernel_rfl) (by kernel_rfl) (show laidMet Tryd.prog (("internal/strconv.uint64pow10", Lib.tabData .u64 Lib.pow10Tab) :: []) W from h.tail.tail)
end Go.Proofs.YtpbheonapgckfaaDoor
