/- 'handfastlaw02.wakes' returns true, in whatever memory in which the package's table lies as its text lays it. -/
import Derived.Test.YtjofijigfkkidaaDoorIpMath
import Derived.Test.YtjofijigfkkidaaDoorIpF
namespace Go.Proofs.YtjofijigfkkidaaDoor
open Go.RowKit
open SumM

theorem Wid.below {w w' : World} (h : Wid w) (hg : 0 < w.heap.size) (hb : Below w.heap.size w w') : Wid w' := fun i hi => (hb.cell (p := ⟨0, i, none⟩) hg).trans (h i hi)
theorem own_cap {w : World} {base : Nat} {e : TypeId} {a : Option Addr} {n c : Nat} {xs : List Value} (h : w.ownsRow base e 1 (.slice a n c) n xs) : n ≤ c ∧ c ≤ 9223372036854775807 := by
  rcases h.2 with ⟨h1, h2⟩ | ⟨g, cap, cur, h1, _, _, h3, h4, _⟩
  · injection h1 with h1 h2 h3
    omega
  · injection h1 with h1 h2 h5
    unfold maxLen at h4
    omega
theorem in_wf8 {l : List Int} (h : In 255 l) : ∀ n ∈ l, (Lit.int .u8 n).wf = true := fun n hn => wf_u8.2 (h n hn)
theorem putOf_in {sv nu fl ho pr sr ds : Int} {on pn : Nat} {os ps : List Int} (hio : In 255 os) (hip : In 255 ps) : In 255 (putOf sv nu fl ho pr sr ds on pn os ps) := by
  have hc := cr_in (tot (words (headOf sv nu fl ho pr sr ds on pn os)))
  unfold putOf
  intro x hx
  rcases List.mem_append.1 hx with h | h
  · refine in_set (in_set (headOf_in hio) 10 _ ?_) 11 _ ?_ x h
    · unfold sumOf; omega
    · unfold sumOf; omega
  · exact hip x h

/-- Bytes that were put, parsed. -/
theorem parse_put (sv nu fl ho pr sr ds : Int) (on pn : Nat) (os ps : List Int) (H : Nums sv nu fl ho pr sr ds) (hrt : rightB fl on pn = true) (hol : os.length = on) (hpl : ps.length = pn) (A : Option Addr) (len cap : Nat) (hlen : len = 20 + on + pn) (hlc : len ≤ cap) (hc : cap ≤ 9223372036854775807) (w : World) (hg : 0 < w.heap.size) (hW : Wid w)
    (hR : Row .u8 w.heap.size w A (putOf sv nu fl ho pr sr ds on pn os ps)) :
    Calls Tryd.prog 12 #[.slice A len cap] w fun e w' => ∃ v, e = .returned (.tuple #[v, .int .u8 0]) ∧ HeadRet sv nu fl ho pr sr ds os ps w v w' := by
  have hs := rightB_le hrt
  have hfl := (of_decide_eq_true hrt).1
  refine (ipParse_any A len cap _ (by rw [putOf_length os ps H hs hol hpl, hlen]) hlc hc (by omega) w hg hW hR).mono ?_
  have hy := why_put os ps H hs hol hpl
  rw [if_neg (by omega)] at hy
  obtain ⟨q1, q2, q3, q4, q5, q6, q7, q8, q9⟩ := put_seg os ps H hs hol
  rintro e w' (⟨h, _⟩ | ⟨_, v, rfl, h⟩)
  · exact absurd hy h
  · rw [q1, q2, q3, q4, q5, q6, q7, q8, q9] at h
    exact ⟨v, rfl, h⟩
/-- Bytes that are none. -/
theorem parse_no (bs : List Int) (A : Option Addr) (len cap : Nat) (hlen : bs.length = len) (hlc : len ≤ cap) (hc : cap ≤ 9223372036854775807) (hln : len ≤ 1000000) (w : World) (hg : 0 < w.heap.size) (hW : Wid w) (hR : Row .u8 w.heap.size w A bs) (hy : whyOf bs ≠ 0) :
    Calls Tryd.prog 12 #[.slice A len cap] w fun e w' => e = .returned (.tuple #[.agg #[.int .u8 0, .int .u16 0, .int .u16 0, .int .u8 0, .int .u8 0, .int .u32 0, .int .u32 0, .slice none 0 0, .slice none 0 0], .int .u8 (whyOf bs)]) ∧ Below w.heap.size w w' := by
  refine (ipParse_any A len cap bs hlen hlc hc hln w hg hW hR).mono ?_
  rintro e w' (⟨_, h⟩ | ⟨h, _⟩)
  · exact h
  · exact absurd h hy

/-- Bytes of a known number, in memory of the call's own, and true. -/
def PutN (n : Nat) (zs : List Int) (w : World) (e : Ending) (w' : World) : Prop :=
  ∃ A c, e = .returned (.tuple #[.slice A n c, .bool true]) ∧ w'.ownsRow w.heap.size 5 1 (.slice A n c) n (zs.map (Value.int .u8)) ∧ Below w.heap.size w w'
theorem put_n (sv nu fl ho pr sr ds : Int) (oa : Option Addr) (on oc : Nat) (pa : Option Addr) (pn pc : Nat) (os ps : List Int) (H : Nums sv nu fl ho pr sr ds) (hrt : rightB fl on pn = true) (w : World) (hg : 0 < w.heap.size) (hW : Wid w)
    (hro : Row .u8 w.heap.size w oa os) (hol : os.length = on) (hon : oa = none → oc = 0) (hrp : Row .u8 w.heap.size w pa ps) (hpl : ps.length = pn) (hpn : pa = none → pc = 0) :
    Calls Tryd.prog 10 #[.agg #[.int .u8 sv, .int .u16 nu, .int .u16 fl, .int .u8 ho, .int .u8 pr, .int .u32 sr, .int .u32 ds, .slice oa on oc, .slice pa pn pc]] w (PutN (20 + on + pn) (putOf sv nu fl ho pr sr ds on pn os ps) w) := by
  refine (ipPut_yes sv nu fl ho pr sr ds oa on oc pa pn pc os ps H hrt w hg hW hro hol hon hrp hpl hpn).mono ?_
  rintro e w' ⟨A, c, rfl, hO, hb⟩
  rw [putOf_length os ps H (rightB_le hrt) hol hpl] at hO ⊢
  exact ⟨A, c, rfl, hO, hb⟩

theorem nums_of (ho pr : Int) (h1 : 0 ≤ ho ∧ ho ≤ 255) (h2 : 0 ≤ pr ∧ pr ≤ 255) : Nums 0 0 0 ho pr 0 0 := ⟨by decide, by decide, by decide, h1, h2, by decide, by decide⟩
theorem put_a (w : World) (hg : 0 < w.heap.size) (hW : Wid w) :
    Calls Tryd.prog 10 #[.agg #[.int .u8 0, .int .u16 0, .int .u16 0, .int .u8 0, .int .u8 0, .int .u32 0, .int .u32 0, .slice none 0 0, .slice none 0 0]] w (PutN 20 [69, 0, 0, 20, 0, 0, 0, 0, 0, 0, 186, 235, 0, 0, 0, 0, 0, 0, 0, 0] w) := by
  have := put_n 0 0 0 0 0 0 0 none 0 0 none 0 0 [] [] (nums_of 0 0 (by decide) (by decide)) (by decide) w hg hW (Row.nil _ _ _ _) rfl (fun _ => rfl) (Row.nil _ _ _ _) rfl (fun _ => rfl)
  rwa [show putOf 0 0 0 0 0 0 0 0 0 [] [] = [69, 0, 0, 20, 0, 0, 0, 0, 0, 0, 186, 235, 0, 0, 0, 0, 0, 0, 0, 0] by decide +kernel] at this
theorem put_d (w : World) (hg : 0 < w.heap.size) (hW : Wid w) :
    Calls Tryd.prog 10 #[.agg #[.int .u8 0, .int .u16 0, .int .u16 0, .int .u8 64, .int .u8 6, .int .u32 0, .int .u32 0, .slice none 0 0, .slice none 0 0]] w (PutN 20 [69, 0, 0, 20, 0, 0, 0, 0, 64, 6, 122, 229, 0, 0, 0, 0, 0, 0, 0, 0] w) := by
  have := put_n 0 0 0 64 6 0 0 none 0 0 none 0 0 [] [] (nums_of 64 6 (by decide) (by decide)) (by decide) w hg hW (Row.nil _ _ _ _) rfl (fun _ => rfl) (Row.nil _ _ _ _) rfl (fun _ => rfl)
  rwa [show putOf 0 0 0 64 6 0 0 0 0 [] [] = [69, 0, 0, 20, 0, 0, 0, 0, 64, 6, 122, 229, 0, 0, 0, 0, 0, 0, 0, 0] by decide +kernel] at this
theorem put_c (oa pa : Addr) (w : World) (hg : 0 < w.heap.size) (hW : Wid w) (hro : Row .u8 w.heap.size w (some oa) [1, 2, 3, 4]) (hrp : Row .u8 w.heap.size w (some pa) [9]) :
    Calls Tryd.prog 10 #[.agg #[.int .u8 0, .int .u16 0, .int .u16 0, .int .u8 64, .int .u8 6, .int .u32 0, .int .u32 0, .slice (some oa) 4 4, .slice (some pa) 1 1]] w (PutN 25 (putOf 0 0 0 64 6 0 0 4 1 [1, 2, 3, 4] [9]) w) :=
  put_n 0 0 0 64 6 0 0 (some oa) 4 4 (some pa) 1 1 [1, 2, 3, 4] [9] (nums_of 64 6 (by decide) (by decide)) (by decide) w hg hW hro rfl (fun h => by cases h) hrp rfl (fun h => by cases h)

theorem own_addr {w : World} {base : Nat} {e : TypeId} {a : Option Addr} {n c : Nat} {xs : List Value} (h : w.ownsRow base e 1 (.slice a n c) n xs) (hn : 0 < n) : ∃ g, a = some ⟨g, 0, none⟩ ∧ base ≤ g ∧ g < w.heap.size := by
  obtain ⟨g, cap, hv, hb, hlt⟩ := h.form hn
  injection hv with h1
  exact ⟨g, h1, hb, hlt⟩
/-- What the last test reads. -/
theorem wakes_reads {w : World} {b g1 g3 g4 C1 C3 C4 : Nat} {oa pa : Option Addr} {oc pc : Nat} {base : Nat}
    (hB : w.heap[b]? = some (.cells #[.int .u8 0, .int .u16 0, .int .u16 0, .int .u8 64, .int .u8 6, .int .u32 0, .int .u32 0, .slice oa 4 oc, .slice pa 1 pc] 26 (0, 0)))
    (P : w.ownsRow base 5 1 (.slice (some ⟨g1, 0, none⟩) 20 C1) 20 (([69, 0, 0, 20, 0, 0, 0, 0, 0, 0, 186, 235, 0, 0, 0, 0, 0, 0, 0, 0] : List Int).map (Value.int .u8)))
    (Q : w.ownsRow base 5 1 (.slice (some ⟨g3, 0, none⟩) 25 C3) 25 ((putOf 0 0 0 64 6 0 0 4 1 [1, 2, 3, 4] [9]).map (Value.int .u8)))
    (O : w.ownsRow base 5 1 (.slice (some ⟨g4, 0, none⟩) 20 C4) 20 (([69, 0, 0, 20, 0, 0, 0, 0, 64, 6, 122, 229, 0, 0, 0, 0, 0, 0, 0, 0] : List Int).map (Value.int .u8)))
    {bo bp : Nat} (H : w.ownsRow bo 5 1 (.slice oa 4 oc) 4 (([1, 2, 3, 4] : List Int).map (Value.int .u8))) (I : w.ownsRow bp 5 1 (.slice pa 1 pc) 1 (([9] : List Int).map (Value.int .u8)))
    (W : World) (m : Below w.heap.size w W) :
    (convert 24 9 (.slice (some ⟨g1, 0, none⟩) 20 C1)).run Tryd.prog W = .ok (.string ⟨#[69, 0, 0, 20, 0, 0, 0, 0, 0, 0, 186, 235, 0, 0, 0, 0, 0, 0, 0, 0]⟩) W ∧
    (convert 24 9 (.slice oa 4 oc)).run Tryd.prog W = .ok (.string ⟨#[1, 2, 3, 4]⟩) W ∧
    (convert 24 9 (.slice pa 1 pc)).run Tryd.prog W = .ok (.string ⟨#[9]⟩) W ∧
    W.cell? ⟨g4, 10, none⟩ = some (.int .u8 122) ∧ W.cell? ⟨g4, 11, none⟩ = some (.int .u8 229) ∧ W.cell? ⟨g3, 0, none⟩ = some (.int .u8 70) ∧
    W.cell? ⟨b, 0, none⟩ = some (.int .u8 0) ∧ W.cell? ⟨b, 1, none⟩ = some (.int .u16 0) ∧ W.cell? ⟨b, 2, none⟩ = some (.int .u16 0) ∧ W.cell? ⟨b, 3, none⟩ = some (.int .u8 64) ∧ W.cell? ⟨b, 4, none⟩ = some (.int .u8 6) ∧
    W.cell? ⟨b, 5, none⟩ = some (.int .u32 0) ∧ W.cell? ⟨b, 6, none⟩ = some (.int .u32 0) ∧ W.cell? ⟨b, 7, none⟩ = some (.slice oa 4 oc) ∧ W.cell? ⟨b, 8, none⟩ = some (.slice pa 1 pc) := by
  have hb := (Array.getElem?_eq_some_iff.1 hB).1
  have hN := nine_cells ((m.block b hb).trans hB)
  refine ⟨?_, ?_, ?_, ?_, ?_, ?_, hN.1⟩
  · exact (Row.of_own (own_below P m) (by decide)).str 20 C1 rfl
  · exact (Row.of_own (own_below H m) (by decide)).str 4 oc rfl
  · exact (Row.of_own (own_below I m) (by decide)).str 1 pc rfl
  · exact own_cell (own_below O m) 10 (by omega)
  · exact own_cell (own_below O m) 11 (by omega)
  · have := own_cell (own_below Q m) 0 (by omega)
    rwa [show (putOf 0 0 0 64 6 0 0 4 1 [1, 2, 3, 4] [9])[0]?.getD 0 = 70 by decide +kernel] at this
theorem size_c (oa : Option Addr) (oc : Nat) (pa : Option Addr) (pc : Nat) (w : World) : Calls Tryd.prog 16 #[.agg #[.int .u8 0, .int .u16 0, .int .u16 0, .int .u8 64, .int .u8 6, .int .u32 0, .int .u32 0, .slice oa 4 oc, .slice pa 1 pc]] w fun e w' => e = .returned (.int .i64 25) ∧ Below w.heap.size w w' :=
  ipSize_yes 0 0 0 64 6 0 0 oa 4 oc pa 1 pc w (by decide)
theorem right_c (oa : Option Addr) (oc : Nat) (pa : Option Addr) (pc : Nat) (w : World) : Calls Tryd.prog 14 #[.agg #[.int .u8 0, .int .u16 0, .int .u16 0, .int .u8 64, .int .u8 6, .int .u32 0, .int .u32 0, .slice oa 4 oc, .slice pa 1 pc]] w fun e w' => e = .returned (.bool true) ∧ Below w.heap.size w w' :=
  ipRight_any 0 0 0 64 6 0 0 oa 4 oc pa 1 pc w (by decide) (by decide)
theorem own_c (oa : Option Addr) (oc : Nat) (pa : Option Addr) (pc : Nat) (w : World) (ho : Row .u8 w.heap.size w oa [1, 2, 3, 4]) (hon : oa = none → oc = 0) (hp : Row .u8 w.heap.size w pa [9]) (hpn : pa = none → pc = 0) :
    Calls Tryd.prog 20 #[.agg #[.int .u8 0, .int .u16 0, .int .u16 0, .int .u8 64, .int .u8 6, .int .u32 0, .int .u32 0, .slice oa 4 oc, .slice pa 1 pc]] w fun e w' => ∃ qa qc ra rc, e = .returned (.agg #[.int .u8 0, .int .u16 0, .int .u16 0, .int .u8 64, .int .u8 6, .int .u32 0, .int .u32 0, .slice qa 4 qc, .slice ra 1 rc]) ∧
      Row .u8 w'.heap.size w' qa [1, 2, 3, 4] ∧ Row .u8 w'.heap.size w' ra [9] ∧ Below w.heap.size w w' := by
  refine (ipOwn_any 0 0 0 64 6 0 0 oa 4 oc pa 1 pc [1, 2, 3, 4] [9] w ho rfl hon hp rfl hpn (by decide) (by decide)).mono ?_
  rintro e w' ⟨v, rfl, qa, qc, ra, rc, rfl, h1, h2, h3⟩
  exact ⟨qa, qc, ra, rc, rfl, Row.of_own h1 (by decide), Row.of_own h2 (by decide), h3⟩
theorem same_cc (qa : Option Addr) (qc : Nat) (ra : Option Addr) (rc : Nat) (oa : Option Addr) (oc : Nat) (pa : Option Addr) (pc : Nat) (w : World) (hq : Row .u8 w.heap.size w qa [1, 2, 3, 4]) (hr : Row .u8 w.heap.size w ra [9]) (ho : Row .u8 w.heap.size w oa [1, 2, 3, 4]) (hp : Row .u8 w.heap.size w pa [9]) :
    Calls Tryd.prog 19 #[.agg #[.int .u8 0, .int .u16 0, .int .u16 0, .int .u8 64, .int .u8 6, .int .u32 0, .int .u32 0, .slice qa 4 qc, .slice ra 1 rc], .agg #[.int .u8 0, .int .u16 0, .int .u16 0, .int .u8 64, .int .u8 6, .int .u32 0, .int .u32 0, .slice oa 4 oc, .slice pa 1 pc]] w fun e w' => e = .returned (.bool true) ∧ Below w.heap.size w w' := by
  have := ipSame_any 0 0 0 64 6 0 0 qa 4 qc ra 1 rc 0 0 0 64 6 0 0 oa 4 oc pa 1 pc [1, 2, 3, 4] [9] [1, 2, 3, 4] [9] _ _ w (Nat.le_refl _) (Nat.le_refl _) hq rfl hr rfl ho rfl hp rfl
  rwa [show sameB 0 0 0 64 6 0 0 [1, 2, 3, 4] [9] 0 0 0 64 6 0 0 [1, 2, 3, 4] [9] = true by decide] at this
theorem same_c0 (oa : Option Addr) (oc : Nat) (pa : Option Addr) (pc : Nat) (w : World) (ho : Row .u8 w.heap.size w oa [1, 2, 3, 4]) (hp : Row .u8 w.heap.size w pa [9]) :
    Calls Tryd.prog 19 #[.agg #[.int .u8 0, .int .u16 0, .int .u16 0, .int .u8 64, .int .u8 6, .int .u32 0, .int .u32 0, .slice oa 4 oc, .slice pa 1 pc], .agg #[.int .u8 0, .int .u16 0, .int .u16 0, .int .u8 0, .int .u8 0, .int .u32 0, .int .u32 0, .slice none 0 0, .slice none 0 0]] w fun e w' => e = .returned (.bool false) ∧ Below w.heap.size w w' := by
  have := ipSame_any 0 0 0 64 6 0 0 oa 4 oc pa 1 pc 0 0 0 0 0 0 0 none 0 0 none 0 0 [1, 2, 3, 4] [9] [] [] _ _ w (Nat.le_refl _) (Nat.le_refl _) ho rfl hp rfl (Row.nil _ _ _ _) rfl (Row.nil _ _ _ _) rfl
  rwa [show sameB 0 0 0 64 6 0 0 [1, 2, 3, 4] [9] 0 0 0 0 0 0 0 [] [] = false by decide] at this
theorem in_1234 : In 255 [1, 2, 3, 4] := by unfold In; decide
theorem in_9 : In 255 [9] := by unfold In; decide
theorem two_rows (w : World) : Row .u8 (((w.alloc (.cells #[.int .u8 1, .int .u8 2, .int .u8 3, .int .u8 4] 5)).alloc (.cells #[.int .u8 9] 5)).heap.size) ((w.alloc (.cells #[.int .u8 1, .int .u8 2, .int .u8 3, .int .u8 4] 5)).alloc (.cells #[.int .u8 9] 5)) (some ⟨w.heap.size, 0, none⟩) [1, 2, 3, 4] ∧
    Row .u8 (((w.alloc (.cells #[.int .u8 1, .int .u8 2, .int .u8 3, .int .u8 4] 5)).alloc (.cells #[.int .u8 9] 5)).heap.size) ((w.alloc (.cells #[.int .u8 1, .int .u8 2, .int .u8 3, .int .u8 4] 5)).alloc (.cells #[.int .u8 9] 5)) (some ⟨w.heap.size + 1, 0, none⟩) [9] ∧
    Below w.heap.size w ((w.alloc (.cells #[.int .u8 1, .int .u8 2, .int .u8 3, .int .u8 4] 5)).alloc (.cells #[.int .u8 9] 5)) := by
  have a := Row.built .u8 w 5 [1, 2, 3, 4] (by decide)
  have b := Row.builtAt .u8 (w := w.alloc (.cells #[.int .u8 1, .int .u8 2, .int .u8 3, .int .u8 4] 5)) (n := w.heap.size + 1) (by simp) 5 [9] (by decide)
  refine ⟨(a.below ((Below.refl _ _).alloc (by simp) _)).more (by simp), b.more (by simp), ((Below.refl _ w).alloc (Nat.le_refl _) _).alloc (by simp) _⟩

set_option maxRecDepth 100000 in
set_option maxHeartbeats 4000000 in
theorem wakes_any (w : World) (hg : 0 < w.heap.size) (hW : Wid w) : Calls Tryd.prog 9 #[] w fun e w' => e = .returned (.bool true) ∧ Below w.heap.size w w' := by
  go_enter Tryd.func9, Tryd.ntmps9
  go_wp2_with fail
  refine (put_a w hg hW).mono ?_
  rintro e w1 ⟨A1, C1, rfl, O1, L1⟩
  have W1 := hW.below hg L1
  have g1 : 0 < w1.heap.size := Nat.lt_of_lt_of_le hg L1.size
  go_wp2_with fail
  obtain ⟨ra, rb, la⟩ := two_rows w1
  have W2 := W1.below g1 la
  have g2 := Nat.lt_of_lt_of_le g1 la.size
  have L2 := L1.trans (la.mono L1.size)
  have O2 := own_below O1 la
  refine (put_c _ _ _ g2 W2 ra rb).mono ?_
  rintro e w3 ⟨A3, C3, rfl, O3, m3⟩
  have W3 := W2.below g2 m3
  have g3 := Nat.lt_of_lt_of_le g2 m3.size
  have L3 := L2.trans (m3.mono L2.size)
  have P3 := own_below O2 m3
  have O3 := own_base O3 L2.size
  clear ra rb la W1 g1 W2 g2 L2 O2 m3 O1 L1
  go_wp2_with fail
  refine (put_d w3 g3 W3).mono ?_
  rintro e w4 ⟨A4, C4, rfl, O4, m4⟩
  have W4 := W3.below g3 m4
  have g4 := Nat.lt_of_lt_of_le g3 m4.size
  have L4 := L3.trans (m4.mono L3.size)
  have P4 := own_below P3 m4
  have Q4 := own_below O3 m4
  have O4 := own_base O4 L3.size
  clear W3 g3 L3 P3 O3 m4
  go_wp2_with fail
  refine (ipPut_no 0 0 1 0 0 0 0 none 0 0 none 0 0 (by decide) (by decide) (by decide) w4).mono ?_
  rintro e w5 ⟨rfl, m5⟩
  have W5 := W4.below g4 m5
  have g5 := Nat.lt_of_lt_of_le g4 m5.size
  have L5 := L4.trans (m5.mono L4.size)
  have P5 := own_below P4 m5
  have Q5 := own_below Q4 m5
  have O5 := own_below O4 m5
  clear W4 g4 L4 P4 Q4 O4 m5
  go_wp2_with fail
  refine (parse_put 0 0 0 64 6 0 0 4 1 [1, 2, 3, 4] [9] (nums_of 64 6 (by decide) (by decide)) (by decide) rfl rfl A3 25 C3 rfl (own_cap Q5).1 (own_cap Q5).2 w5 g5 W5 (Row.of_own Q5 (in_wf8 (putOf_in in_1234 in_9)))).mono ?_
  rintro e w6 ⟨v6, rfl, oa, oc, pa, pc, rfl, H6, I6, m6⟩
  have W6 := W5.below g5 m6
  have g6 := Nat.lt_of_lt_of_le g5 m6.size
  have L6 := L5.trans (m6.mono L5.size)
  have P6 := own_below P5 m6
  have Q6 := own_below Q5 m6
  have O6 := own_below O5 m6
  clear W5 g5 P5 Q5 O5
  go_wp2_with fail
  have hB7 := heap_alloc_new w6 (.cells #[.int .u8 0, .int .u16 0, .int .u16 0, .int .u8 64, .int .u8 6, .int .u32 0, .int .u32 0, .slice oa 4 oc, .slice pa 1 pc] 26)
  have l7 := (Below.refl w6.heap.size w6).alloc (Nat.le_refl _) (.cells #[.int .u8 0, .int .u16 0, .int .u16 0, .int .u8 64, .int .u8 6, .int .u32 0, .int .u32 0, .slice oa 4 oc, .slice pa 1 pc] 26)
  have s7 : (w6.alloc (.cells #[.int .u8 0, .int .u16 0, .int .u16 0, .int .u8 64, .int .u8 6, .int .u32 0, .int .u32 0, .slice oa 4 oc, .slice pa 1 pc] 26)).heap.size = w6.heap.size + 1 := by simp
  generalize w6.alloc (.cells #[.int .u8 0, .int .u16 0, .int .u16 0, .int .u8 64, .int .u8 6, .int .u32 0, .int .u32 0, .slice oa 4 oc, .slice pa 1 pc] 26) = w7 at *
  have W7 := W6.below g6 l7
  have g7 := Nat.lt_of_lt_of_le g6 l7.size
  refine (parse_no [] none 0 0 rfl (by omega) (by omega) (by omega) w7 g7 W7 (Row.nil _ _ _ _) (by decide)).mono ?_
  rintro e w8 ⟨rfl, m8⟩
  have l8 := l7.trans (m8.mono l7.size)
  have g8 := Nat.lt_of_lt_of_le g7 m8.size
  have W8 := W7.below g7 m8
  have L8 := L6.trans (l8.mono L6.size)
  have P8 := own_below P6 l8
  have Q8 := own_below Q6 l8
  have O8 := own_below O6 l8
  have H8 := own_below H6 l8
  have I8 := own_below I6 l8
  have hB8 := (m8.block w6.heap.size (by omega)).trans hB7
  have b8 : w6.heap.size < w8.heap.size := Nat.lt_of_lt_of_le (by omega) m8.size
  have hw1 : whyOf [] = 1 := by decide
  rw [hw1]
  clear hw1 hB7 l7 s7 W7 g7 m8 l8 W6 g6 L6 P6 Q6 O6 H6 I6
  generalize w6.heap.size = b6 at *
  go_wp2_with fail
  obtain ⟨x1, rfl, _, _⟩ := own_addr P8 (by omega)
  obtain ⟨x3, rfl, _, _⟩ := own_addr Q8 (by omega)
  obtain ⟨x4, rfl, _, _⟩ := own_addr O8 (by omega)
  have RD := Lib.hid (wakes_reads hB8 P8 Q8 O8 H8 I8)
  have RH := Lib.hid (fun W (m : Below w8.heap.size w8 W) => Row.of_own (own_below H8 m) (in_wf8 in_1234))
  have RI := Lib.hid (fun W (m : Below w8.heap.size w8 W) => Row.of_own (own_below I8 m) (in_wf8 in_9))
  have NH := Lib.hid (own_nil H8)
  have NI := Lib.hid (own_nil I8)
  have n0 := ((Below.refl w8.heap.size w8).alloc (Nat.le_refl _) (.cells #[.int .u8 0, .int .u16 0, .int .u16 0, .int .u8 0, .int .u8 0, .int .u32 0, .int .u32 0, .slice none 0 0, .slice none 0 0] 26)).drew
  simp only [List.append]
  clear P8 Q8 O8 H8 I8 hB8
  go_region_held3 (fun W => (convert 24 9 (.slice (some ⟨x1, 0, none⟩) 20 C1)).run Tryd.prog W = .ok (.string ⟨#[69, 0, 0, 20, 0, 0, 0, 0, 0, 0, 186, 235, 0, 0, 0, 0, 0, 0, 0, 0]⟩) W ∧
    (convert 24 9 (.slice oa 4 oc)).run Tryd.prog W = .ok (.string ⟨#[1, 2, 3, 4]⟩) W ∧
    (convert 24 9 (.slice pa 1 pc)).run Tryd.prog W = .ok (.string ⟨#[9]⟩) W ∧
    W.cell? ⟨x4, 10, none⟩ = some (.int .u8 122) ∧ W.cell? ⟨x4, 11, none⟩ = some (.int .u8 229) ∧ W.cell? ⟨x3, 0, none⟩ = some (.int .u8 70) ∧
    W.cell? ⟨b6, 0, none⟩ = some (.int .u8 0) ∧ W.cell? ⟨b6, 1, none⟩ = some (.int .u16 0) ∧ W.cell? ⟨b6, 2, none⟩ = some (.int .u16 0) ∧ W.cell? ⟨b6, 3, none⟩ = some (.int .u8 64) ∧ W.cell? ⟨b6, 4, none⟩ = some (.int .u8 6) ∧
    W.cell? ⟨b6, 5, none⟩ = some (.int .u32 0) ∧ W.cell? ⟨b6, 6, none⟩ = some (.int .u32 0) ∧ W.cell? ⟨b6, 7, none⟩ = some (.slice oa 4 oc) ∧ W.cell? ⟨b6, 8, none⟩ = some (.slice pa 1 pc))
    (first | with_reducible exact RD.out _ n5 | with_reducible exact RD.out _ n4 | with_reducible exact RD.out _ n3 | with_reducible exact RD.out _ n2 | with_reducible exact RD.out _ n1 | with_reducible exact RD.out _ n0)
    (first
      | (go_at_call 16; (with_reducible refine (size_c _ _ _ _ _).mono ?_); rintro e v1 ⟨rfl, k1⟩; have n1 := n0.trans (k1.mono n0.size))
      | (go_at_call 14; (with_reducible refine (right_c _ _ _ _ _).mono ?_); rintro e v2 ⟨rfl, k2⟩; have n2 := n1.trans (k2.mono n1.size))
      | (go_at_call 20; (with_reducible refine (own_c _ _ _ _ _ (RH.out _ n2) NH.out (RI.out _ n2) NI.out).mono ?_); rintro e v3 ⟨qa, qc, ra, rc, rfl, r3, s3, k3⟩; have n3 := n2.trans (k3.mono n2.size))
      | (go_at_call 19; (with_reducible refine (same_cc _ _ _ _ _ _ _ _ _ r3 s3 (RH.out _ n3) (RI.out _ n3)).mono ?_); rintro e v4 ⟨rfl, k4⟩; have n4 := n3.trans (k4.mono n3.size))
      | (go_at_call 19; (with_reducible refine (same_c0 _ _ _ _ _ (RH.out _ n4) (RI.out _ n4)).mono ?_); rintro e v5 ⟨rfl, k5⟩; have n5 := n4.trans (k5.mono n4.size)))
  all_goals go_wp2
  all_goals go_ret
  all_goals exact ⟨rfl, L8.trans (n5.mono L8.size)⟩
end Go.Proofs.YtjofijigfkkidaaDoor
