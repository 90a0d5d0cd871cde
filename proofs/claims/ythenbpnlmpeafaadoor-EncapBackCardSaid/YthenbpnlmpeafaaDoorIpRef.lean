/- IpRef: The document's own answers on heads: Own, Size, two, four, number, check. What the document's 'Great', 'Right', 'Size' and 'Own' of heads answer. A head that came in, opened; what the row's listed table gives the walks. Rows of bytes of the call's own whose contents do not matter. More words for the laws over heads: what Parse tells, whatever the head; a row of the call's own and a byte stored in it. The document's own answers on heads: Size, two, four, number, check. The document's own Put. -/
import Derived.Test.YthenbpnlmpeafaaDoorIpCore
import Derived.Test.YthenbpnlmpeafaaDoorIpR
import Derived.Test.YthenbpnlmpeafaaDoorCore
import Derived.Test.YthenbpnlmpeafaaDoorRows
import Derived.ProofKit
import Derived.LaidMore
import Derived.OpenShut
import Derived.Stop.Joined
import Derived.Lib.SmallJoins
import Derived.Test.YthenbpnlmpeafaaDoorIpMore
import Derived.Laws.BitsAllLaws

/- The document's own answers on heads: Own, Size, two, four, number, check. -/
namespace Go.Proofs.YthenbpnlmpeafaaDoor
open Go.RowKit Go.Shelf
open SumM



theorem own2_facts {w W w3 : World} {m : Nat} {sv nu fl ho pr sr ds : Int} {A1 A2 pa : Option Addr} {on C1 pn C2 pc : Nat} {os ps : List Int} {o : Obj} {cz : Array Value}
    (c2 : W.heap[w.heap.size]? = some (.cells #[.int .u8 sv, .int .u16 nu, .int .u16 fl, .int .u8 ho, .int .u8 pr, .int .u32 sr, .int .u32 ds, .slice A1 on C1, .slice pa pn pc] 51 (0, 0)))
    (d2 : W.heap[w.heap.size + 1]? = some (.cells cz 51 (0, 0)))
    (O2 : W.ownsRow w.heap.size 5 1 (.slice A1 on C1) on (os.map (Value.int .u8))) (hs : W.heap.size = m) (hlt : w.heap.size + 1 < m)
    (hg : (W.alloc o).grownBy w3 (Value.slice (some ⟨m, 0, none⟩) 0 0).ownBlock) (O3 : w3.ownsRow w.heap.size 5 1 (.slice A2 pn C2) pn (ps.map (Value.int .u8))) :
    w3.heap[w.heap.size]? = some (.cells #[.int .u8 sv, .int .u16 nu, .int .u16 fl, .int .u8 ho, .int .u8 pr, .int .u32 sr, .int .u32 ds, .slice A1 on C1, .slice pa pn pc] 51 (0, 0)) ∧
    (w3.setCell ⟨w.heap.size, 8, none⟩ (.slice A2 pn C2)).heap[w.heap.size]? = some (.cells #[.int .u8 sv, .int .u16 nu, .int .u16 fl, .int .u8 ho, .int .u8 pr, .int .u32 sr, .int .u32 ds, .slice A1 on C1, .slice A2 pn C2] 51 (0, 0)) ∧
    (w3.setCell ⟨w.heap.size, 8, none⟩ (.slice A2 pn C2)).heap[w.heap.size + 1]? = some (.cells cz 51 (0, 0)) ∧
    (w3.setCell ⟨w.heap.size, 8, none⟩ (.slice A2 pn C2)).ownsRow w.heap.size 5 1 (.slice A1 on C1) on (os.map (Value.int .u8)) ∧
    (w3.setCell ⟨w.heap.size, 8, none⟩ (.slice A2 pn C2)).ownsRow w.heap.size 5 1 (.slice A2 pn C2) pn (ps.map (Value.int .u8)) := by
  have c3 := grow_block c2 hs (by omega) hg
  have d3 := grow_block d2 hs hlt hg
  have O3' := grow_own O2 hs hg
  refine ⟨c3, ?_, ?_, ?_, ?_⟩
  · exact heap_setCell_same w3 w.heap.size 8 _ _ (.slice A2 pn C2) c3
  · exact (Below.heap_setCell w3 ⟨w.heap.size, 8, none⟩ (.slice A2 pn C2) (w.heap.size + 1) (by simp)).trans d3
  · exact own_apart O3' c3 (by decide) 8 (.slice A2 pn C2)
  · exact own_apart O3 c3 (by decide) 8 (.slice A2 pn C2)

end Go.Proofs.YthenbpnlmpeafaaDoor


/- What the document's 'Great', 'Right', 'Size' and 'Own' of heads answer. -/
namespace Go.Proofs.YthenbpnlmpeafaaDoor
open Go.RowKit Go.Shelf
open SumM

/-- Whether a head is too great to be asked. -/
def greatB (on pn : Nat) : Bool := decide (100 < on ∨ 300 < pn)

set_option maxRecDepth 100000 in
set_option maxHeartbeats 1000000 in
theorem refRight_any (sv nu fl ho pr sr ds : Int) (oa : Option Addr) (on oc : Nat) (pa : Option Addr) (pn pc : Nat) (w : World) (ho' : on ≤ 281474976710656) (hp' : pn ≤ 281474976710656) :
    Calls Tryd.prog 52 #[.agg #[.int .u8 sv, .int .u16 nu, .int .u16 fl, .int .u8 ho, .int .u8 pr, .int .u32 sr, .int .u32 ds, .slice oa on oc, .slice pa pn pc]] w fun e w' => e = .returned (.bool (rightB fl on pn)) ∧ Below w.heap.size w w' := by
  have HB := Lib.hid (fun o : Obj => (Below.refl w.heap.size w).alloc (Nat.le_refl _) o)
  have NO := fun h : ¬ ((fl = 0 ∨ fl = 16384) ∧ on ≤ 40 ∧ on % 4 = 0 ∧ 20 + on + pn ≤ 65535) => Lib.hid (show false = rightB fl on pn from (decide_eq_false h).symm)
  have YES := fun h : (fl = 0 ∨ fl = 16384) ∧ on ≤ 40 ∧ on % 4 = 0 ∧ 20 + on + pn ≤ 65535 => Lib.hid (show true = rightB fl on pn from (decide_eq_true h).symm)
  have NO := Lib.hid NO
  have YES := Lib.hid YES
  by_cases h1 : fl = 0 ∨ fl = 16384
  · by_cases h2 : on ≤ 40
    · have e2 : decide ((on : Int) ≤ 40) = true := decide_eq_true (by omega)
      by_cases h3 : on % 4 = 0
      · have e3 : ((on : Int) % 4 == 0) = true := by simp; omega
        by_cases h4 : 20 + on + pn ≤ 65535
        · have e4 : decide (20 + (on : Int) + (pn : Int) ≤ 65535) = true := decide_eq_true (by omega)
          have HR := YES.out ⟨h1, h2, h3, h4⟩
          rcases h1 with rfl | rfl
          all_goals
            go_enter Tryd.func52, Tryd.ntmps52
            go_wp2
            go_ret
            exact ⟨ret_bool HR.out, HB.out _⟩
        · have e4 : decide (20 + (on : Int) + (pn : Int) ≤ 65535) = false := decide_eq_false (by omega)
          have HR := NO.out (fun h => h4 h.2.2.2)
          rcases h1 with rfl | rfl
          all_goals
            go_enter Tryd.func52, Tryd.ntmps52
            go_wp2
            go_ret
            exact ⟨ret_bool HR.out, HB.out _⟩
      · have e3 : ((on : Int) % 4 == 0) = false := by simp; omega
        have HR := NO.out (fun h => h3 h.2.2.1)
        rcases h1 with rfl | rfl
        all_goals
          go_enter Tryd.func52, Tryd.ntmps52
          go_wp2
          go_ret
          exact ⟨ret_bool HR.out, HB.out _⟩
    · have e2 : decide ((on : Int) ≤ 40) = false := decide_eq_false (by omega)
      have HR := NO.out (fun h => h2 h.2.1)
      rcases h1 with rfl | rfl
      all_goals
        go_enter Tryd.func52, Tryd.ntmps52
        go_wp2
        go_ret
        exact ⟨ret_bool HR.out, HB.out _⟩
  · have HR := NO.out (fun h => h1 h.1)
    have a1 : (fl == 0) = false := by simp; omega
    have a2 : (fl == 16384) = false := by simp; omega
    clear h1
    go_enter Tryd.func52, Tryd.ntmps52
    go_wp2
    go_ret
    exact ⟨ret_bool HR.out, HB.out _⟩
end Go.Proofs.YthenbpnlmpeafaaDoor

/- A head that came in, opened; what the row's listed table gives the walks. -/
namespace Go.Proofs.YthenbpnlmpeafaaDoor
open Go.RowKit Go.Joins Go.ChangeShapes Go.WideShapes Go.ChangeAt Go.Deep
open SumM

/-- A head that came in. -/
structure IsHead (w : World) (sv nu fl ho pr sr ds : Int) (oa : Option Addr) (on oc : Nat) (pa : Option Addr) (pn pc : Nat) (os ps : List Int) : Prop where
  nums : Nums sv nu fl ho pr sr ds
  hro : Row .u8 w.heap.size w oa os
  hol : os.length = on
  hon : oa = none → oc = 0
  hoc : on ≤ oc ∧ oc ≤ maxLen
  hrp : Row .u8 w.heap.size w pa ps
  hpl : ps.length = pn
  hpn : pa = none → pc = 0
  hpc : pn ≤ pc ∧ pc ≤ maxLen

section
variable {H : Type} {enc : TypeId × Value → H} {w : World} {base : Nat} {spare : Nat → Bool} {held : Bool}
set_option maxRecDepth 100000 in
theorem open_head {r : Reach} {b0 : Nat} {v : Value} {d : DataW H} {p : List MemPlace} (hsp : ∀ b, spare b = true) (hv : Value.okWide Tryd.prog w r b0 51 v) (h : DataW.Trod enc Tryd.prog w base spare held 51 v d p) :
    ∃ (sv nu fl ho pr sr ds : Int) (oa : Option Addr) (on oc : Nat) (pa : Option Addr) (pn pc : Nat) (os ps : List Int), v = .agg #[.int .u8 sv, .int .u16 nu, .int .u16 fl, .int .u8 ho, .int .u8 pr, .int .u32 sr, .int .u32 ds, .slice oa on oc, .slice pa pn pc] ∧ IsHead w sv nu fl ho pr sr ds oa on oc pa pn pc os ps := by
  have hs := Tryd.underlying51
  have hC : Tryd.prog.cellsOf 51 = 9 := by kernel_rfl
  obtain ⟨cs, rfl, hsz⟩ := okWide_struct hs hv
  obtain ⟨l⟩ := cs
  match l, hsz.trans hC with
  | [c0, c1, c2, c3, c4, c5, c6, c7, c8], _ =>
    obtain ⟨fuel, hf⟩ := h
    obtain ⟨xs, n, _, hx, _, hlen, hg⟩ := DataW.trod_struct hs hf
    have z1 : Tryd.prog.cellsOf 5 = 1 := by kernel_rfl
    have z2 : Tryd.prog.cellsOf 49 = 1 := by kernel_rfl
    have z3 : Tryd.prog.cellsOf 24 = 1 := by kernel_rfl
    have z4 : Tryd.prog.cellsOf 27 = 1 := by kernel_rfl
    match xs, hlen with
    | [y0, y1, y2, y3, y4, y5, y6, y7, y8], _ =>
      have g0 : DataW.trod enc Tryd.prog w base spare held n 5 [c0] = some y0 := by simpa [Value.cells, z1, z2, z3, z4] using hg 0 _ rfl
      have g1 : DataW.trod enc Tryd.prog w base spare held n 49 [c1] = some y1 := by simpa [Value.cells, z1, z2, z3, z4] using hg 1 _ rfl
      have g2 : DataW.trod enc Tryd.prog w base spare held n 49 [c2] = some y2 := by simpa [Value.cells, z1, z2, z3, z4] using hg 2 _ rfl
      have g3 : DataW.trod enc Tryd.prog w base spare held n 5 [c3] = some y3 := by simpa [Value.cells, z1, z2, z3, z4] using hg 3 _ rfl
      have g4 : DataW.trod enc Tryd.prog w base spare held n 5 [c4] = some y4 := by simpa [Value.cells, z1, z2, z3, z4] using hg 4 _ rfl
      have g5 : DataW.trod enc Tryd.prog w base spare held n 24 [c5] = some y5 := by simpa [Value.cells, z1, z2, z3, z4] using hg 5 _ rfl
      have g6 : DataW.trod enc Tryd.prog w base spare held n 24 [c6] = some y6 := by simpa [Value.cells, z1, z2, z3, z4] using hg 6 _ rfl
      have g7 : DataW.trod enc Tryd.prog w base spare held n 27 [c7] = some y7 := by simpa [Value.cells, z1, z2, z3, z4] using hg 7 _ rfl
      have g8 : DataW.trod enc Tryd.prog w base spare held n 27 [c8] = some y8 := by simpa [Value.cells, z1, z2, z3, z4] using hg 8 _ rfl
      obtain ⟨sv, e0, _, w0⟩ := DataW.trod_int Tryd.underlying5 g0
      obtain ⟨nu, e1, _, w1⟩ := DataW.trod_int Tryd.underlying49 g1
      obtain ⟨fl, e2, _, w2⟩ := DataW.trod_int Tryd.underlying49 g2
      obtain ⟨ho, e3, _, w3⟩ := DataW.trod_int Tryd.underlying5 g3
      obtain ⟨pr, e4, _, w4⟩ := DataW.trod_int Tryd.underlying5 g4
      obtain ⟨sr, e5, _, w5⟩ := DataW.trod_int Tryd.underlying24 g5
      obtain ⟨ds, e6, _, w6⟩ := DataW.trod_int Tryd.underlying24 g6
      obtain ⟨oa, on, oc, os, e7, a1, a2, a3, a4, a5⟩ := open_bytes hsp g7
      obtain ⟨pa, pn, pc, ps, e8, b1, b2, b3, b4, b5⟩ := open_bytes hsp g8
      simp only [List.cons.injEq, and_true] at e0 e1 e2 e3 e4 e5 e6
      subst e0 e1 e2 e3 e4 e5 e6 e7 e8
      have u32 : ∀ n : Int, (Lit.int .u32 n).wf = true → 0 ≤ n ∧ n ≤ 4294967295 := fun n h => by simpa [Lit.wf, IntKind.min, IntKind.max, IntKind.bits, IntKind.signed] using h
      exact ⟨sv, nu, fl, ho, pr, sr, ds, oa, on, oc, pa, pn, pc, os, ps, rfl, ⟨⟨wf_u8.1 w0, wf_u16.1 w1, wf_u16.1 w2, wf_u8.1 w3, wf_u8.1 w4, u32 _ w5, u32 _ w6⟩, a1, a2, a3, ⟨a4, a5⟩, b1, b2, b3, ⟨b4, b5⟩⟩⟩
end

/-- What the row lists. -/
def laidW : List (String × DataW Unit) := [("handfast/ip.widths", Rows.laid_handfast_ip_widths)]
theorem gWidths : Tryd.prog.globalNamed "handfast/ip.widths" = some 0 := by kernel_rfl
theorem tWidths : (Tryd.prog.globals[0]?).map (·.type) = some 107 := by kernel_rfl
theorem door_met (os : Os) (args : Array Value) : laidMetH Tryd.prog laidW ((World.doorLaid Tryd.prog 400 os).forCall (fun _ _ => 0) ⟨#[], args, []⟩).memory :=
  laidMetH_of_parts3 (fuel := 8) (laidMet_of_run' 8 (by kernel_rfl) (by kernel_rfl)) (by kernel_rfl) (by kernel_rfl)
theorem wid_of_laid {W : World} (h : laidMetH Tryd.prog laidW W) : Wid W ∧ 0 < W.heap.size := by
  rw [MakeChecks.laidMetH_plain _ _ _ (by kernel_rfl)] at h
  obtain ⟨ps, ⟨g0, t0, cs0, f0, p0, q0, hg0, ht0, hv0, hd0, _⟩, _⟩ := h
  obtain rfl := Option.some.inj (gWidths.symm.trans hg0)
  obtain rfl := Option.some.inj (tWidths.symm.trans ht0)
  obtain ⟨xs, m, rfl, hx, hlen, hn, hel⟩ := DataW.trod_array Tryd.underlying107 hd0
  have c1 : Tryd.prog.cellsOf 3 = 1 := by kernel_rfl
  have c10 : Tryd.prog.cellsOf 107 = 10 := by kernel_rfl
  rw [c10] at hlen
  rw [c1] at hel
  simp only [Prod.mk.injEq, Rows.laid_handfast_ip_widths, DataW.agg.injEq] at hx
  have hW : Wid W := by
    intro i hi
    obtain ⟨y, hy⟩ : ∃ y, xs[i]? = some y := ⟨_, List.getElem?_eq_getElem (by omega)⟩
    have h1 := hel i hi
    rw [hy] at h1
    obtain ⟨k, e1, e2, _⟩ := DataW.trod_int Tryd.underlying3 h1
    have h2 : (xs.map (·.1))[i]? = some (.lit (.int .i64 k)) := by rw [List.getElem?_map, hy, e2]; rfl
    rw [← hx.1] at h2
    have hk : k = widthAt i := by
      clear h1 e1 hy hel hv0
      obtain rfl | rfl | rfl | rfl | rfl | rfl | rfl | rfl | rfl | rfl : i = 0 ∨ i = 1 ∨ i = 2 ∨ i = 3 ∨ i = 4 ∨ i = 5 ∨ i = 6 ∨ i = 7 ∨ i = 8 ∨ i = 9 := by omega
      all_goals (simp at h2; simp [widthAt, ← h2])
    rw [World.var?_cell gWidths hv0 i, ← hk]
    have h3 : cs0.toList[i]? = some (.int .i64 k) := by
      have : (List.take 1 (List.drop (i * 1) cs0.toList))[0]? = some (.int .i64 k) := by rw [e1]; rfl
      simpa using this
    simpa using h3
  exact ⟨hW, block_lt_of_cell (hW 0 (by decide))⟩
end Go.Proofs.YthenbpnlmpeafaaDoor

/- Rows of bytes of the call's own whose contents do not matter. -/
namespace Go.Proofs.YthenbpnlmpeafaaDoor
open Go.RowKit
open SumM

end Go.Proofs.YthenbpnlmpeafaaDoor

/- More words for the laws over heads: what Parse tells, whatever the head; a row of the call's own and a byte stored in it. -/
namespace Go.Proofs.YthenbpnlmpeafaaDoor
open Go.RowKit
open SumM

/-- A head, whatever it is, and why there is none. -/
def Told (y : Int) (w : World) (e : Ending) (w' : World) : Prop :=
  ∃ (sv nu fl ho pr sr ds : Int) (oa : Option Addr) (on oc : Nat) (pa : Option Addr) (pn pc : Nat), e = .returned (.tuple #[.agg #[.int .u8 sv, .int .u16 nu, .int .u16 fl, .int .u8 ho, .int .u8 pr, .int .u32 sr, .int .u32 ds, .slice oa on oc, .slice pa pn pc], .int .u8 y]) ∧ Below w.heap.size w w'
theorem parse_told (bs : List Int) (A : Option Addr) (len cap : Nat) (hlen : bs.length = len) (hlc : len ≤ cap) (hc : cap ≤ 9223372036854775807) (hln : len ≤ 1000000) (w : World) (hg : 0 < w.heap.size) (hW : Wid w) (hR : Row .u8 w.heap.size w A bs) (y : Int) (hy : whyOf bs = y) :
    Calls Tryd.prog 34 #[.slice A len cap] w (Told y w) := by
  refine (ipParse_any A len cap bs hlen hlc hc hln w hg hW hR).mono ?_
  rintro e w' (⟨_, rfl, h⟩ | ⟨h0, v, rfl, oa, oc, pa, pc, rfl, _, _, h⟩)
  · exact ⟨_, _, _, _, _, _, _, _, _, _, _, _, _, by rw [hy], h⟩
  · exact ⟨_, _, _, _, _, _, _, _, _, _, _, _, _, by rw [← hy, h0], h⟩
end Go.Proofs.YthenbpnlmpeafaaDoor

/- The document's own answers on heads: Size, two, four, number, check. -/
namespace Go.Proofs.YthenbpnlmpeafaaDoor
open Go.RowKit
open SumM

set_option maxRecDepth 100000 in
set_option maxHeartbeats 1000000 in
theorem refSize_any (sv nu fl ho pr sr ds : Int) (oa : Option Addr) (on oc : Nat) (pa : Option Addr) (pn pc : Nat) (w : World) (ho' : on ≤ 281474976710656) (hp' : pn ≤ 281474976710656) :
    Calls Tryd.prog 54 #[.agg #[.int .u8 sv, .int .u16 nu, .int .u16 fl, .int .u8 ho, .int .u8 pr, .int .u32 sr, .int .u32 ds, .slice oa on oc, .slice pa pn pc]] w fun e w' => e = .returned (.int .i64 (if rightB fl on pn = true then 20 + (on : Int) + pn else 0)) ∧ Below w.heap.size w w' := by
  by_cases hr : rightB fl on pn = true
  · rw [if_pos hr]
    have HR := Lib.hid hr
    clear hr
    go_enter Tryd.func54, Tryd.ntmps54
    go_wp2_with fail
    refine (refRight_any _ _ _ _ _ _ _ _ _ _ _ _ _ _ ho' hp').mono ?_
    rintro e w1 ⟨rfl, m1⟩
    rw [HR.out]
    obtain ⟨hc, hf⟩ := bcell m1
    go_wp2
    go_ret
    exact ⟨rfl, below_alloc1 m1⟩
  · rw [if_neg hr]
    have HR := Lib.hid (show rightB fl on pn = false by simpa using hr)
    clear hr
    go_enter Tryd.func54, Tryd.ntmps54
    go_wp2_with fail
    refine (refRight_any _ _ _ _ _ _ _ _ _ _ _ _ _ _ ho' hp').mono ?_
    rintro e w1 ⟨rfl, m1⟩
    rw [HR.out]
    obtain ⟨hc, hf⟩ := bcell m1
    go_wp2
    go_ret
    exact ⟨rfl, below_alloc1 m1⟩



/-- Two bytes, just made. -/
theorem two_any (n : Int) (hn : 0 ≤ n ∧ n ≤ 65535) (w : World) :
    Calls Tryd.prog 53 #[.int .i64 n] w fun e w' => e = .returned (.slice (some ⟨w.heap.size, 0, none⟩) 2 2) ∧ w' = w.alloc (.cells #[.int .u8 (n / 256), .int .u8 (n % 256)] 5) := by
  have e1 : bits .and .i64 (n / 256) 255 = n / 256 := by rw [i64_and255]; omega
  have e2 : bits .and .i64 n 255 = n % 256 := i64_and255 n
  have e3 : IntKind.u8.wrap (n / 256) = n / 256 := by rw [IntKind.wrap_u8]; omega
  have e4 : IntKind.u8.wrap (n % 256) = n % 256 := by rw [IntKind.wrap_u8]; omega
  go_enter Tryd.func53, Tryd.ntmps53
  go_wp2
  go_ret
  exact ⟨rfl, rfl⟩

set_option maxRecDepth 100000 in
set_option maxHeartbeats 400000 in
theorem number_any (a : Option Addr) (len cap B : Nat) (zs : List Int) (w : World) (h : Row .u8 B w a zs) (hl : zs.length = len) (hs : len ≤ 4) :
    Calls Tryd.prog 41 #[.slice a len cap] w fun e w' => e = .returned (.int .i64 (numOf zs)) ∧ w = w' := by
  have hin : In 255 zs := fun x hx => wf_u8.1 (h.1 x hx)
  have HL := Lib.hid hl
  clear hl
  go_enter Tryd.func41, Tryd.ntmps41
  go_wp2
  go_loop [3, 4] (fun t i => ∃ k : Nat, k ≤ len ∧ i = .int .i64 k ∧ t = .int .i64 (numOf (zs.take k))) (fun _ i => len - (intOf i).toNat)
  case atStart => exact ⟨0, Nat.zero_le _, rfl, rfl⟩
  case round =>
    obtain ⟨k, hk, rfl, rfl⟩ := hrel
    by_cases hlt : k < len
    · obtain ⟨b, off, rfl, _, hc⟩ := h.2 (by rw [HL.out]; omega)
      have hcx := hc k (by rw [HL.out]; omega)
      have hx := getD_in hin (by decide) k
      have hb := numOf_in (zs.take k) (fun x hx => hin x (List.mem_of_mem_take hx))
      have hp : numOf (zs.take k) < 16777216 := by
        have e : (zs.take k).length = k := by simp; rw [HL.out]; omega
        rw [e] at hb
        have : (256 : Int) ^ k ≤ 256 ^ 3 := by
          obtain rfl | rfl | rfl | rfl : k = 0 ∨ k = 1 ∨ k = 2 ∨ k = 3 := by omega
          all_goals decide
        omega
      have HT := Lib.hid (show numOf (zs.take (k + 1)) = numOf (zs.take k) * 256 + zs[k]?.getD 0 by
        have hk' : k < zs.length := by rw [HL.out]; exact hlt
        rw [List.take_add_one, show zs[k]?.toList = [zs[k]?.getD 0] by simp [hk'], numOf_snoc])
      have h0 := hb.1
      clear hc h hin hb
      go_wp2
      go_round
      case rel => exact ⟨k + 1, by omega, by go_num, by rw [HT.out]; go_num⟩
      case measure => simp [intOf]; omega
    · obtain rfl : k = len := by omega
      have he : zs.take k = zs := List.take_of_length_le (by rw [HL.out]; exact Nat.le_refl _)
      have HE := Lib.hid he
      clear he
      rw [HE.out]
      go_wp2
      go_ret
      exact ⟨rfl, rfl⟩

/-- Four bytes of the call's own. -/
def FourRet (zs : List Int) (w : World) (e : Ending) (w' : World) : Prop :=
  ∃ g c, e = .returned (.slice (some ⟨g, 0, none⟩) 4 c) ∧ w'.ownsRow w.heap.size 5 1 (.slice (some ⟨g, 0, none⟩) 4 c) 4 (zs.map (Value.int .u8)) ∧ Below w.heap.size w w'
def fourOf (n : Int) : List Int := [n / 65536 / 256, n / 65536 % 256, n % 65536 / 256, n % 256]
set_option maxHeartbeats 1000000 in
theorem four_any (n : Int) (hn : 0 ≤ n ∧ n ≤ 4294967295) (w : World) : Calls Tryd.prog 55 #[.int .u32 n] w (FourRet (fourOf n) w) := by
  have e1 : bits .and .u32 n 65535 = n % 65536 := u32_and65535 n hn.1 hn.2
  obtain ⟨i0, hi, hz0, hz1, hz2⟩ := info_parts Tryd.infoU8
  have l1 := (Below.refl w.heap.size w).alloc (Nat.le_refl _) (.cells #[.int .u8 (n / 65536 / 256), .int .u8 (n / 65536 % 256)] 5)
  have l2 := l1.alloc l1.size (.cells #[.int .u8 (n % 65536 / 256), .int .u8 (n % 256)] 5)
  have O1 := own_built w w.heap.size (Nat.le_refl _) 5 [.int .u8 (n / 65536 / 256), .int .u8 (n / 65536 % 256)] 2 rfl (by unfold maxLen; omega)
  have O1 := Lib.hid (O1.alloc (.cells #[.int .u8 (n % 65536 / 256), .int .u8 (n % 256)] 5))
  have R2 := Lib.hid (Row.builtAt .u8 (w := w.alloc (.cells #[.int .u8 (n / 65536 / 256), .int .u8 (n / 65536 % 256)] 5)) (n := w.heap.size + 1) (by simp) 5 [n % 65536 / 256, n % 256] (in_wf8 (by intro x hx; simp only [List.mem_cons, List.not_mem_nil, or_false] at hx; omega)))
  go_enter Tryd.func55, Tryd.ntmps55
  go_wp2_with (first
    | (go_at_call 53; refine (two_any _ (by omega) _).mono ?_; rintro e w1 ⟨rfl, rfl⟩)
    | (at_builtin; refine wpList_append_row _ rfl (.tmp 6) (.tmp 10) 27 rfl w.heap.size 5 i0 (.int .u8 0) 1 Tryd.underlying27 hi hz0 hz1 hz2 rfl (.slice (some ⟨w.heap.size, 0, none⟩) 2 2) 2 _ rfl O1.out .u8 _ _ 2 2 [n % 65536 / 256, n % 256] rfl rfl R2.out (fun h => by cases h) (by unfold maxLen; omega) (by omega) l2.size ?_; intro v3 w3 O3 hgrow3; have L3 := l2.grown hgrow3 l2.size (fun e he => by cases he <;> exact Nat.le_refl _)))
  go_ret
  obtain ⟨g, c, rfl, hg⟩ := own_form O3 (by omega)
  exact ⟨g, c, rfl, O3, L3⟩

set_option maxRecDepth 100000 in
theorem rcheckOf_any (a : Option Addr) (n c : Nat) (zs : List Int) (hl : zs.length = n) (h12 : 12 ≤ n) (hn : n ≤ 1000000) (w : World) (hR : Row .u8 w.heap.size w a zs) (hnil : a = none → c = 0) :
    Calls Tryd.prog 42 #[.slice a n c] w fun e w' => e = .returned (.int .i64 (chkOf zs)) ∧ Below w.heap.size w w' := by
  have HL := Lib.hid hl
  have HN := Lib.hid hnil
  have HI := row_in hR
  clear hl hnil
  obtain ⟨i0, hi, hz0, hz1, hz2⟩ := info_parts Tryd.infoU8
  have l0 := (Below.refl w.heap.size w).alloc (Nat.le_refl _) (.cells #[] 5)
  go_enter Tryd.func42, Tryd.ntmps42
  go_wp2_with (at_builtin; refine wpList_append_row _ rfl (.tmp 4) (.tmp 5) 27 rfl w.heap.size 5 i0 (.int .u8 0) 1 Tryd.underlying27 hi hz0 hz1 hz2 rfl (.slice (some ⟨w.heap.size, 0, none⟩) 0 0) 0 [] rfl (own_built w w.heap.size (Nat.le_refl _) 5 [] 0 rfl (by unfold maxLen; omega)) .u8 w.heap.size a n c zs rfl HL.out (hR.below l0) HN.out (by unfold maxLen; omega) (by omega) (by simp) ?_; intro v1 w1 O1 hgrow1; simp only [Nat.zero_add, List.nil_append] at O1; have L1 := l0.grown hgrow1 l0.size (fun e he => by cases he <;> exact Nat.le_refl _); obtain ⟨g, cp, rfl, hg⟩ := own_form O1 (by omega); have x1 := own_cell O1 10 (by omega); have f1 := O1.frozenAt 10; have O2 := own_store O1 10 0; have x2 := own_cell O2 11 (by omega); have f2 := O2.frozenAt 11)
  have O3 := own_store O2 11 0
  have L3 := (L1.setCell (p := ⟨g, 10, none⟩) hg (.int .u8 0)).setCell (p := ⟨g, 11, none⟩) hg (.int .u8 0)
  have I3 := in_set (in_set HI 10 0 ⟨by decide, by decide⟩) 11 0 ⟨by decide, by decide⟩
  have HC := Lib.hid (show chkOf zs = 65535 - sumOf ((zs.set 10 0).set 11 0) from rfl)
  have hK := cr_in (tot (words ((zs.set 10 0).set 11 0)))
  refine (rcheck_any _ n cp ((zs.set 10 0).set 11 0) (by simp [HL.out]) (by omega) _ (Row.of_own O3 (in_wf8 I3))).mono ?_
  rintro e w4 ⟨rfl, m4⟩
  rw [← HC.out]
  have hc0 : 0 ≤ chkOf zs ∧ chkOf zs ≤ 65535 := by rw [HC.out]; unfold sumOf; omega
  clear x1 x2 f1 f2 O1 O2 O3 hK I3
  obtain ⟨K, hKK⟩ : ∃ K, chkOf zs = K := ⟨_, rfl⟩
  rw [hKK] at hc0 ⊢
  have HKK := Lib.hid hKK
  clear hKK
  go_wp2
  go_ret
  exact ⟨ret_int HKK.out.symm, L3.trans (m4.mono L3.size)⟩
end Go.Proofs.YthenbpnlmpeafaaDoor

/- The document's own Put. -/
namespace Go.Proofs.YthenbpnlmpeafaaDoor
open Go.RowKit
open SumM

theorem put_list {sv nu fl ho pr sr ds : Int} {on pn : Nat} (os : List Int) (h4 : on % 4 = 0) :
    [69 + (on : Int) / 4, sv] ++ [(20 + (on : Int) + pn) / 256, (20 + (on : Int) + pn) % 256] ++ [nu / 256, nu % 256] ++ [fl / 256, fl % 256] ++ [ho, pr, 0, 0] ++ fourOf sr ++ fourOf ds ++ os = headC sv nu fl ho pr sr ds on pn 0 0 os := by
  have e1 : 69 + (on : Int) / 4 = 64 + (20 + (on : Int)) / 4 := by omega
  have e2 : ∀ n : Int, n / 65536 / 256 = n / 16777216 := fun n => by omega
  have e3 : ∀ n : Int, n % 65536 / 256 = n / 256 % 256 := fun n => by omega
  simp [headC, fourOf, e1, e2, e3]


set_option maxRecDepth 100000 in
set_option maxHeartbeats 8000000 in
theorem refPut_n (sv nu fl ho pr sr ds : Int) (oa : Option Addr) (on oc : Nat) (pa : Option Addr) (pn pc : Nat) (os ps : List Int) (H : Nums sv nu fl ho pr sr ds) (hrt : rightB fl on pn = true) (w : World)
    (hro : Row .u8 w.heap.size w oa os) (hol : os.length = on) (hon : oa = none → oc = 0) (hrp : Row .u8 w.heap.size w pa ps) (hpl : ps.length = pn) (hpn : pa = none → pc = 0) :
    Calls Tryd.prog 33 #[.agg #[.int .u8 sv, .int .u16 nu, .int .u16 fl, .int .u8 ho, .int .u8 pr, .int .u32 sr, .int .u32 ds, .slice oa on oc, .slice pa pn pc]] w (PutN (20 + on + pn) (putOf sv nu fl ho pr sr ds on pn os ps) w) := by
  have hs := rightB_le hrt
  obtain ⟨b1, b2, b3, b4, b5, b6, b7⟩ := H
  have HN := Lib.hid (show Nums sv nu fl ho pr sr ds from ⟨b1, b2, b3, b4, b5, b6, b7⟩)
  have HR := Lib.hid hrt
  have HO := Lib.hid hol
  have HP := Lib.hid hpl
  have NO := Lib.hid hon
  have NP := Lib.hid hpn
  have RO := Lib.hid (fun W (m : Below w.heap.size w W) => hro.below m)
  have RP := Lib.hid (fun W (m : Below w.heap.size w W) => hrp.below m)
  have HS := Lib.hid hs
  have hs1 := hs.1
  have hs3 := hs.2.2
  clear hol hpl hon hpn hrt hro hrp hs
  have HW4 := Lib.hid (show ∀ n ∈ [ho, pr, 0, 0], (Lit.int .u8 n).wf = true from in_wf8 (by intro x hx; simp only [List.mem_cons, List.not_mem_nil, or_false] at hx; omega))
  obtain ⟨i0, hi, hz0, hz1, hz2⟩ := info_parts Tryd.infoU8
  have hH0 := heap_alloc_new w (.cells #[.int .u8 sv, .int .u16 nu, .int .u16 fl, .int .u8 ho, .int .u8 pr, .int .u32 sr, .int .u32 ds, .slice oa on oc, .slice pa pn pc] 51)
  have L0 := (Below.refl w.heap.size w).alloc (Nat.le_refl _) (.cells #[.int .u8 sv, .int .u16 nu, .int .u16 fl, .int .u8 ho, .int .u8 pr, .int .u32 sr, .int .u32 ds, .slice oa on oc, .slice pa pn pc] 51)
  have hz0' : w.heap.size < (w.alloc (.cells #[.int .u8 sv, .int .u16 nu, .int .u16 fl, .int .u8 ho, .int .u8 pr, .int .u32 sr, .int .u32 ds, .slice oa on oc, .slice pa pn pc] 51)).heap.size := by simp
  go_enter Tryd.func33, Tryd.ntmps33
  go_wp2_with fail
  generalize w.alloc (.cells #[.int .u8 sv, .int .u16 nu, .int .u16 fl, .int .u8 ho, .int .u8 pr, .int .u32 sr, .int .u32 ds, .slice oa on oc, .slice pa pn pc] 51) = W0 at *
  refine (refRight_any sv nu fl ho pr sr ds oa on oc pa pn pc _ (by omega) (by omega)).mono ?_
  rintro e w1 ⟨rfl, m1⟩
  rw [HR.out]
  have L1 := L0.trans (m1.mono L0.size)
  have hH1 := (m1.block _ hz0').trans hH0
  have hb1 := Nat.lt_of_lt_of_le hz0' m1.size
  have QB := Lib.hid (fun W (mm : Below w1.heap.size w1 W) => nine_cells ((mm.block _ hb1).trans hH1))
  obtain ⟨⟨q0, q1, q2, q3, q4, q5, q6, q7, q8⟩, _⟩ := nine_cells hH1
  have la := (Below.refl w1.heap.size w1).alloc (Nat.le_refl _) (.cells #[.int .u8 (69 + (on : Int) / 4), .int .u8 sv] 5)
  have Oa : (w1.alloc (.cells #[.int .u8 (69 + (on : Int) / 4), .int .u8 sv] 5)).ownsRow w1.heap.size 5 1 (.slice (some ⟨w1.heap.size, 0, none⟩) 2 2) 2 ([69 + (on : Int) / 4, sv].map (Value.int .u8)) := own_built w1 w1.heap.size (Nat.le_refl _) 5 ([69 + (on : Int) / 4, sv].map (Value.int .u8)) 2 rfl (by unfold maxLen; omega)
  obtain ⟨⟨r0, r1, r2, r3, r4, r5, r6, r7, r8⟩, _⟩ := QB.out _ la
  clear hH0 L0 m1 hz0' hH1
  go_wp2_with fail
  generalize w1.alloc (.cells #[.int .u8 (69 + (on : Int) / 4), .int .u8 sv] 5) = wa at *
  refine (refSize_any sv nu fl ho pr sr ds oa on oc pa pn pc _ (by omega) (by omega)).mono ?_
  rintro e wb ⟨rfl, mb⟩
  rw [if_pos HR.out]
  have Ob := own_below Oa mb
  have Mb := la.trans (mb.mono la.size)
  clear q0 q1 q2 q3 q4 q5 q6 q7 q8 r0 r1 r2 r3 r4 r5 r6 r7 r8 Oa la mb
  go_wp2_with fail
  refine (two_any _ (by omega) _).mono ?_
  rintro e wb' ⟨rfl, rfl⟩
  have Oc := Ob.alloc (.cells #[.int .u8 ((20 + (on : Int) + pn) / 256), .int .u8 ((20 + (on : Int) + pn) % 256)] 5)
  have Rc : Row .u8 (wb.heap.size + 1) (wb.alloc (.cells #[.int .u8 ((20 + (on : Int) + pn) / 256), .int .u8 ((20 + (on : Int) + pn) % 256)] 5)) (some ⟨wb.heap.size, 0, none⟩) [(20 + (on : Int) + pn) / 256, (20 + (on : Int) + pn) % 256] := Row.built .u8 wb 5 [(20 + (on : Int) + pn) / 256, (20 + (on : Int) + pn) % 256] (in_two (by omega) (by omega))
  have Mc := Mb.alloc Mb.size (.cells #[.int .u8 ((20 + (on : Int) + pn) / 256), .int .u8 ((20 + (on : Int) + pn) % 256)] 5)
  go_wp2_with (at_builtin; (refine wpList_append_row _ rfl (.tmp 18) (.tmp 21) 27 rfl w1.heap.size 5 i0 (.int .u8 0) 1 Tryd.underlying27 hi hz0 hz1 hz2 rfl (.slice (some ⟨w1.heap.size, 0, none⟩) 2 2) 2 _ rfl Oc .u8 _ _ 2 2 [(20 + (on : Int) + pn) / 256, (20 + (on : Int) + pn) % 256] rfl rfl Rc (fun h => by cases h) (by unfold maxLen; omega) (by omega) Mc.size ?_); intro vd wd Od hgd; rw [← List.map_append] at Od; have Md := Mc.grown hgd Mc.size (fun e he => by cases he <;> exact Nat.le_refl _); have rd := (QB.out _ Md).1.2.1)
  refine (two_any _ (by omega) _).mono ?_
  rintro e w' ⟨rfl, rfl⟩
  have O' := Od.alloc (.cells #[.int .u8 (nu / 256), .int .u8 (nu % 256)] 5)
  have R' : Row .u8 (wd.heap.size + 1) (wd.alloc (.cells #[.int .u8 (nu / 256), .int .u8 (nu % 256)] 5)) (some ⟨wd.heap.size, 0, none⟩) [nu / 256, nu % 256] := Row.built .u8 wd 5 [nu / 256, nu % 256] (in_two (by omega) (by omega))
  have M' := Md.alloc Md.size (.cells #[.int .u8 (nu / 256), .int .u8 (nu % 256)] 5)
  go_wp2_with (first
    | (at_builtin; refine wpList_append_row _ rfl (.tmp 23) (.tmp 27) 27 rfl w1.heap.size 5 i0 (.int .u8 0) 1 Tryd.underlying27 hi hz0 hz1 hz2 rfl vd (2 + 2) _ rfl O' .u8 _ _ 2 2 [nu / 256, nu % 256] rfl rfl R' (fun h => by cases h) (by unfold maxLen; omega) (by omega) M'.size ?_; intro ve we Oe hge; rw [← List.map_append] at Oe; have Me := M'.grown hge M'.size (fun e he => (Od.lt e he).1); have re := (QB.out _ Me).1.2.2.1))
  clear O' R' M' rd Od Md hgd Oc Rc Mc Ob Mb hge
  refine (two_any _ (by omega) _).mono ?_
  rintro e w' ⟨rfl, rfl⟩
  have O' := Oe.alloc (.cells #[.int .u8 (fl / 256), .int .u8 (fl % 256)] 5)
  have R' : Row .u8 (we.heap.size + 1) (we.alloc (.cells #[.int .u8 (fl / 256), .int .u8 (fl % 256)] 5)) (some ⟨we.heap.size, 0, none⟩) [fl / 256, fl % 256] := Row.built .u8 we 5 [fl / 256, fl % 256] (in_two (by omega) (by omega))
  have M' := Me.alloc Me.size (.cells #[.int .u8 (fl / 256), .int .u8 (fl % 256)] 5)
  go_wp2_with (first
    | (at_builtin; refine wpList_append_row _ rfl (.tmp 29) (.tmp 33) 27 rfl w1.heap.size 5 i0 (.int .u8 0) 1 Tryd.underlying27 hi hz0 hz1 hz2 rfl ve (2 + 2 + 2) _ rfl O' .u8 _ _ 2 2 [fl / 256, fl % 256] rfl rfl R' (fun h => by cases h) (by unfold maxLen; omega) (by omega) M'.size ?_; intro vf wf Of hgf; rw [← List.map_append] at Of; have Mf := M'.grown hgf M'.size (fun e he => (Oe.lt e he).1); have rf := (QB.out _ Mf).1.2.2.2.1; have rg := (QB.out _ Mf).1.2.2.2.2.1; have lf := Mf.alloc Mf.size (.cells #[.int .u8 ho, .int .u8 pr, .int .u8 0, .int .u8 0] 5); have Of' := Of.alloc (.cells #[.int .u8 ho, .int .u8 pr, .int .u8 0, .int .u8 0] 5); have Rf : Row .u8 (wf.heap.size + 1) (wf.alloc (.cells #[.int .u8 ho, .int .u8 pr, .int .u8 0, .int .u8 0] 5)) (some ⟨wf.heap.size, 0, none⟩) [ho, pr, 0, 0] := Row.built .u8 wf 5 [ho, pr, 0, 0] HW4.out)
    | (at_builtin; refine wpList_append_row _ rfl (.tmp 35) (.tmp 40) 27 rfl w1.heap.size 5 i0 (.int .u8 0) 1 Tryd.underlying27 hi hz0 hz1 hz2 rfl vf (2 + 2 + 2 + 2) _ rfl Of' .u8 _ _ 4 4 [ho, pr, 0, 0] rfl rfl Rf (fun h => by cases h) (by unfold maxLen; omega) (by omega) lf.size ?_; intro vg wg Og hgg; rw [← List.map_append] at Og; have Mg := lf.grown hgg lf.size (fun e he => (Of.lt e he).1)))
  clear O' R' M' re rf rg Oe Me hgf Of Of' Mf Rf lf hgg
  obtain ⟨lg, hlg⟩ : ∃ l, [69 + (on : Int) / 4, sv] ++ [(20 + (on : Int) + pn) / 256, (20 + (on : Int) + pn) % 256] ++ [nu / 256, nu % 256] ++ [fl / 256, fl % 256] ++ [ho, pr, 0, 0] = l := ⟨_, rfl⟩
  rw [hlg] at Og
  have HLG := Lib.hid hlg
  clear hlg
  have O0 : wg.drew.ownsRow w1.heap.size 5 1 vg 12 (lg.map (Value.int .u8)) := Og
  obtain ⟨gg, cg, rfl, hgg⟩ := own_form O0 (by omega)
  have N0 : Below w1.heap.size w1 wg.drew := Mg.drew
  have hggl : gg < wg.drew.heap.size := (O0.lt gg rfl).2
  have QS := Lib.hid (fun W (mm : Below w1.heap.size w1 W) => (show W.cell? ⟨w.heap.size, 5, none⟩ = some (.int .u32 sr) ∧ W.cell? ⟨w.heap.size, 6, none⟩ = some (.int .u32 ds) from ⟨(QB.out _ mm).1.2.2.2.2.2.1, (QB.out _ mm).1.2.2.2.2.2.2.1⟩))
  clear Og Mg
  go_region_held3 (fun W => W.cell? ⟨w.heap.size, 5, none⟩ = some (.int .u32 sr) ∧ W.cell? ⟨w.heap.size, 6, none⟩ = some (.int .u32 ds))
    (first | with_reducible exact QS.out _ NY | with_reducible exact QS.out _ NX | with_reducible exact QS.out _ NB | with_reducible exact QS.out _ NA | with_reducible exact QS.out _ N0)
    (first
      | (go_at_call_of 55 (Value.int .u32 sr); (with_reducible refine (four_any sr b6 _).mono ?_); rintro e wA ⟨gA, cA, rfl, OA, mA⟩; have NA := N0.trans (mA.mono N0.size); have PA := own_below O0 mA)
      | (go_at_call_of 55 (Value.int .u32 ds); (with_reducible refine (four_any ds b7 _).mono ?_); rintro e wB ⟨gB, cB, rfl, OB, mB⟩; first | (have NB := NX.trans (mB.mono NX.size); have PX := own_below OX mB) | (have NB := NA.trans (mB.mono NA.size); have PB := own_below PA mB; have QA := own_below OA mB))
      | (refine step_append_w wA (by rfl) _ _ _ (by rfl) w1.heap.size 5 i0 (.int .u8 0) 1 Tryd.underlying27 hi hz0 hz1 hz2 rfl (.slice (some ⟨gg, 0, none⟩) 12 cg) 12 (lg.map (Value.int .u8)) (by rfl) PA ⟨gA, 0, none⟩ 4 cA ((fourOf sr).map (Value.int .u8)) (by rfl) (by rfl) (OA.cells rfl) (one_u8 _) (by omega) (by unfold maxLen; omega) (by omega) NA.size ?_; intro gX cX wX OX hgX; rw [← List.map_append] at OX; have NX := NA.grown hgX NA.size (fun e he => by cases he <;> exact hgg))
      | (refine step_append_w wB (by rfl) _ _ _ (by rfl) w1.heap.size 5 i0 (.int .u8 0) 1 Tryd.underlying27 hi hz0 hz1 hz2 rfl (.slice (some ⟨gg, 0, none⟩) 12 cg) 12 (lg.map (Value.int .u8)) (by rfl) PB ⟨gA, 0, none⟩ 4 cA ((fourOf sr).map (Value.int .u8)) (by rfl) (by rfl) (QA.cells rfl) (one_u8 _) (by omega) (by unfold maxLen; omega) (by omega) NB.size ?_; intro gX cX wX OX hgX; rw [← List.map_append] at OX; have NX := NB.grown hgX NB.size (fun e he => by cases he <;> exact hgg); have OB' := own_grown OB PB hgX (Nat.lt_of_lt_of_le hggl mA.size))
      | (refine step_append_w wB (by rfl) _ _ _ (by rfl) w1.heap.size 5 i0 (.int .u8 0) 1 Tryd.underlying27 hi hz0 hz1 hz2 rfl (.slice (some ⟨gX, 0, none⟩) (12 + 4) cX) (12 + 4) ((lg ++ fourOf sr).map (Value.int .u8)) (by rfl) PX ⟨gB, 0, none⟩ 4 cB ((fourOf ds).map (Value.int .u8)) (by rfl) (by rfl) (OB.cells rfl) (one_u8 _) (by omega) (by unfold maxLen; omega) (by omega) NB.size ?_; intro gY cY wY OY hgY; rw [← List.map_append] at OY; have NY := NB.grown hgY NB.size (fun e he => (PX.lt e he).1))
      | (refine step_append_w wX (by rfl) _ _ _ (by rfl) w1.heap.size 5 i0 (.int .u8 0) 1 Tryd.underlying27 hi hz0 hz1 hz2 rfl (.slice (some ⟨gX, 0, none⟩) (12 + 4) cX) (12 + 4) ((lg ++ fourOf sr).map (Value.int .u8)) (by rfl) OX ⟨gB, 0, none⟩ 4 cB ((fourOf ds).map (Value.int .u8)) (by rfl) (by rfl) (OB'.cells rfl) (one_u8 _) (by omega) (by unfold maxLen; omega) (by omega) NX.size ?_; intro gY cY wY OY hgY; rw [← List.map_append] at OY; have NY := NX.grown hgY NX.size (fun e he => (OX.lt e he).1)))
  clear O0
  have HL := Lib.hid (show lg ++ fourOf sr ++ fourOf ds ++ os = headC sv nu fl ho pr sr ds on pn 0 0 os by rw [← HLG.out]; exact put_list os HS.out.2.1)
  have y7 := (QB.out _ NY).1.2.2.2.2.2.2.2.1
  have LY := L1.trans (NY.mono L1.size)
  go_wp2_with (at_builtin; refine wpList_append_row _ rfl (.tmp 51) (.tmp 53) 27 rfl w1.heap.size 5 i0 (.int .u8 0) 1 Tryd.underlying27 hi hz0 hz1 hz2 rfl (.slice (some ⟨gY, 0, none⟩) 20 cY) 20 _ rfl OY .u8 w.heap.size oa on oc os rfl HO.out (RO.out _ LY) NO.out (by unfold maxLen; omega) (by omega) NY.size ?_; intro vZ wZ OZ hgZ; rw [← List.map_append] at OZ; have NZ := NY.grown hgZ NY.size (fun e he => (OY.lt e he).1))
  rw [HL.out] at OZ
  obtain ⟨gZ, cZ, rfl, hgZb⟩ := own_form OZ (by omega)
  obtain ⟨hd, hhd⟩ : ∃ l, headC sv nu fl ho pr sr ds on pn 0 0 os = l := ⟨_, rfl⟩
  rw [hhd] at OZ
  have HHD := Lib.hid hhd
  have HDL := Lib.hid (show hd.length = 20 + on by rw [← hhd, headC_length, HO.out])
  have HIN := Lib.hid (show In 255 hd by
    rw [← hhd, ← headOf_eq os HN.out HS.out]
    exact headOf_in (row_in (RO.out _ LY)))
  obtain ⟨K, hK⟩ : ∃ K, 65535 - sumOf hd = K := ⟨_, rfl⟩
  have hKi : 0 ≤ K ∧ K ≤ 65535 := by
    have := cr_in (tot (words hd))
    rw [← hK]
    unfold sumOf
    omega
  have HK := Lib.hid hK
  clear hhd hK OY hgZ y7 NY OX
  refine (rcheck_any _ (20 + on) cZ hd HDL.out (by omega) _ (Row.of_own OZ (in_wf8 HIN.out))).mono ?_
  rintro e wq ⟨rfl, mq⟩
  rw [HK.out]
  have Oq := own_below OZ mq
  have Mq := NZ.trans (mq.mono NZ.size)
  clear OZ mq NZ
  go_wp2_with fail
  refine (two_any K hKi _).mono ?_
  rintro e w' ⟨rfl, rfl⟩
  have Or := Oq.alloc (.cells #[.int .u8 (K / 256), .int .u8 (K % 256)] 5)
  have Mr := Mq.alloc Mq.size (.cells #[.int .u8 (K / 256), .int .u8 (K % 256)] 5)
  have kr := heap_alloc_new wq (.cells #[.int .u8 (K / 256), .int .u8 (K % 256)] 5)
  have k0 : (wq.alloc (.cells #[.int .u8 (K / 256), .int .u8 (K % 256)] 5)).cell? ⟨wq.heap.size, 0, none⟩ = some (.int .u8 (K / 256)) := by rw [cell_of_row _ _ _ _ _ _ kr]; rfl
  have k1 : (wq.alloc (.cells #[.int .u8 (K / 256), .int .u8 (K % 256)] 5)).cell? ⟨wq.heap.size, 1, none⟩ = some (.int .u8 (K % 256)) := by rw [cell_of_row _ _ _ _ _ _ kr]; rfl
  clear Oq Mq kr
  go_wp2_with fail
  generalize wq.alloc (.cells #[.int .u8 (K / 256), .int .u8 (K % 256)] 5) = wr at *
  have x1 := own_cell Or 10 (by omega)
  have f1 := Or.frozenAt 10
  have Os := own_store Or 10 (K / 256)
  have x2 := own_cell Os 11 (by omega)
  have f2 := Os.frozenAt 11
  go_region
  have Ot : (((wr.setCell ⟨gZ, 10, none⟩ (.int .u8 (K / 256))).setCell ⟨gZ, 11, none⟩ (.int .u8 (K % 256))).drew).ownsRow w1.heap.size 5 1 (.slice (some ⟨gZ, 0, none⟩) (20 + on) cZ) (20 + on) (((hd.set 10 (K / 256)).set 11 (K % 256)).map (Value.int .u8)) := own_store Os 11 (K % 256)
  have Mt := ((Mr.setCell (p := ⟨gZ, 10, none⟩) hgZb (.int .u8 (K / 256))).setCell (p := ⟨gZ, 11, none⟩) hgZb (.int .u8 (K % 256))).drew
  have y8 := (QB.out _ Mt).1.2.2.2.2.2.2.2.2
  have Lt := L1.trans (Mt.mono L1.size)
  clear x1 x2 f1 f2 Or Os Mr k0 k1
  generalize ((wr.setCell ⟨gZ, 10, none⟩ (.int .u8 (K / 256))).setCell ⟨gZ, 11, none⟩ (.int .u8 (K % 256))).drew = wt at *
  go_wp2_with (at_builtin; refine wpList_append_row _ rfl (.tmp 69) (.tmp 71) 27 rfl w1.heap.size 5 i0 (.int .u8 0) 1 Tryd.underlying27 hi hz0 hz1 hz2 rfl (.slice (some ⟨gZ, 0, none⟩) (20 + on) cZ) (20 + on) _ rfl Ot .u8 w.heap.size pa pn pc ps rfl HP.out (RP.out _ Lt) NP.out (by unfold maxLen; omega) (by omega) Mt.size ?_; intro vU wU OU hgU; rw [← List.map_append] at OU; have NU := Lt.grown hgU Lt.size (fun e he => Nat.le_trans L1.size (Ot.lt e he).1))
  go_ret2
  have hfin : (hd.set 10 (K / 256)).set 11 (K % 256) ++ ps = putOf sv nu fl ho pr sr ds on pn os ps := by
    unfold putOf
    rw [headOf_eq os HN.out HS.out, HHD.out, HK.out]
  rw [hfin] at OU
  obtain ⟨A, C, rfl⟩ := own_slice OU
  exact ⟨A, C, rfl, own_base OU L1.size, NU⟩

set_option maxRecDepth 100000 in
set_option maxHeartbeats 2000000 in
theorem refPut_no (sv nu fl ho pr sr ds : Int) (oa : Option Addr) (on oc : Nat) (pa : Option Addr) (pn pc : Nat) (hrt : rightB fl on pn = false) (ho' : on ≤ 281474976710656) (hp' : pn ≤ 281474976710656) (w : World) :
    Calls Tryd.prog 33 #[.agg #[.int .u8 sv, .int .u16 nu, .int .u16 fl, .int .u8 ho, .int .u8 pr, .int .u32 sr, .int .u32 ds, .slice oa on oc, .slice pa pn pc]] w fun e w' => e = .returned (.tuple #[.slice none 0 0, .bool false]) ∧ Below w.heap.size w w' := by
  have HR := Lib.hid hrt
  clear hrt
  have L0 := (Below.refl w.heap.size w).alloc (Nat.le_refl _) (.cells #[.int .u8 sv, .int .u16 nu, .int .u16 fl, .int .u8 ho, .int .u8 pr, .int .u32 sr, .int .u32 ds, .slice oa on oc, .slice pa pn pc] 51)
  go_enter Tryd.func33, Tryd.ntmps33
  go_wp2_with (go_at_call 52; refine (refRight_any sv nu fl ho pr sr ds oa on oc pa pn pc _ ho' hp').mono ?_; rintro e w1 ⟨rfl, m1⟩; have LL := L0.trans (m1.mono L0.size); clear m1; rw [HR.out])
  go_ret2
  exact ⟨rfl, LL⟩
end Go.Proofs.YthenbpnlmpeafaaDoor
