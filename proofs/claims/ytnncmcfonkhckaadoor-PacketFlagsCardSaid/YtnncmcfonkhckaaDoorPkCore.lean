/- PkCore: Packets: their cells; the document's own Same, Closes, Syn; two rows of bytes that are the same. A packet that may go on: why bytes are none; bytes that are made; a bit turned. The document's own Parse of packets. The document's own Make of packets. What Parse of packets answers, in one form. A packet that came in, opened. -/
import Derived.Test.YtnncmcfonkhckaaDoorCore
import Derived.Deep.DeepCutAuto
import Derived.Deep.RegionHeldLaw
import Derived.Deep.DrawnRows
import Derived.Test.YtnncmcfonkhckaaDoorIpMore
import Derived.Test.YtnncmcfonkhckaaDoorTcpParse
import Derived.Test.YtnncmcfonkhckaaDoorIpV
import Derived.Test.YtnncmcfonkhckaaDoorTcpRef

/- Packets: their cells; the document's own Same, Closes, Syn; two rows of bytes that are the same. -/
namespace Go.Proofs.YtnncmcfonkhckaaDoor
open Go.RowKit Go.Shelf
open SumM

theorem pk_cells {w : World} {b : Nat} (ts td tp tq kf : Int) (ka : Option Addr) (kn kc : Nat) (h : w.heap[b]? = some (.cells #[.int .u32 ts, .int .u32 td, .int .u16 tp, .int .u16 tq, .int .u8 kf, .slice ka kn kc] 28 (0, 0))) :
    w.cell? ⟨b, 0, none⟩ = some (.int .u32 ts) ∧ w.cell? ⟨b, 1, none⟩ = some (.int .u32 td) ∧ w.cell? ⟨b, 2, none⟩ = some (.int .u16 tp) ∧ w.cell? ⟨b, 3, none⟩ = some (.int .u16 tq) ∧ w.cell? ⟨b, 4, none⟩ = some (.int .u8 kf) ∧ w.cell? ⟨b, 5, none⟩ = some (.slice ka kn kc) := by
  refine ⟨?_, ?_, ?_, ?_, ?_, ?_⟩ <;> (rw [cell_of_row _ _ _ _ _ _ h]; rfl)

/-- Whether two packets are the same. -/
def pkB (ts td tp tq kf : Int) (zs : List Int) (ts' td' tp' tq' kf' : Int) (zs' : List Int) : Bool := eqU ts td tp tq ts' td' tp' tq' && (kf == kf') && eqB zs zs'

set_option maxRecDepth 100000 in
set_option maxHeartbeats 2000000 in
theorem refPkSame_any (ts td tp tq kf : Int) (ka : Option Addr) (kn kc : Nat) (ts' td' tp' tq' kf' : Int) (ka' : Option Addr) (kn' kc' : Nat) (zs zs' : List Int) (B B' : Nat) (w : World) (hB : B ≤ w.heap.size) (hB' : B' ≤ w.heap.size) (hr : Row .u8 B w ka zs) (hl : zs.length = kn) (hr' : Row .u8 B' w ka' zs') (hl' : zs'.length = kn') :
    Calls Tryd.prog 12 #[.agg #[.int .u32 ts, .int .u32 td, .int .u16 tp, .int .u16 tq, .int .u8 kf, .slice ka kn kc], .agg #[.int .u32 ts', .int .u32 td', .int .u16 tp', .int .u16 tq', .int .u8 kf', .slice ka' kn' kc']] w fun e w' => e = .returned (.bool (pkB ts td tp tq kf zs ts' td' tp' tq' kf' zs')) ∧ Below w.heap.size w w' := by
  have bB := heap_alloc_new (w.alloc (.cells #[.int .u32 ts, .int .u32 td, .int .u16 tp, .int .u16 tq, .int .u8 kf, .slice ka kn kc] 28)) (.cells #[.int .u32 ts', .int .u32 td', .int .u16 tp', .int .u16 tq', .int .u8 kf', .slice ka' kn' kc'] 28)
  rw [World.size_alloc] at bB
  have bA := (Below.heap_alloc (w.alloc (.cells #[.int .u32 ts, .int .u32 td, .int .u16 tp, .int .u16 tq, .int .u8 kf, .slice ka kn kc] 28)) (.cells #[.int .u32 ts', .int .u32 td', .int .u16 tp', .int .u16 tq', .int .u8 kf', .slice ka' kn' kc'] 28) w.heap.size (by simp)).trans (heap_alloc_new w (.cells #[.int .u32 ts, .int .u32 td, .int .u16 tp, .int .u16 tq, .int .u8 kf, .slice ka kn kc] 28))
  have L0 := ((Below.refl w.heap.size w).alloc (Nat.le_refl _) (.cells #[.int .u32 ts, .int .u32 td, .int .u16 tp, .int .u16 tq, .int .u8 kf, .slice ka kn kc] 28)).alloc (by simp) (.cells #[.int .u32 ts', .int .u32 td', .int .u16 tp', .int .u16 tq', .int .u8 kf', .slice ka' kn' kc'] 28)
  have s1 := (hr.below (L0.mono hB)).str kn kc hl
  have s2 := (hr'.below (L0.mono hB')).str kn' kc' hl'
  have HE := Lib.hid (str_eq (row_in hr) (row_in hr'))
  have E1 := fun W => run_eqU ts td tp tq ts' td' tp' tq' W
  obtain ⟨q0, q1, q2, q3, q4, q5⟩ := pk_cells _ _ _ _ _ _ _ _ bA
  obtain ⟨z0, z1, z2, z3, z4, z5⟩ := pk_cells _ _ _ _ _ _ _ _ bB
  unfold pkB
  generalize eqU ts td tp tq ts' td' tp' tq' = b1 at *
  clear hr hr' hl hl' bA bB hB hB'
  go_enter Tryd.func12, Tryd.ntmps12
  go_upto_region 1 with (fail)
  generalize (w.alloc (.cells #[.int .u32 ts, .int .u32 td, .int .u16 tp, .int .u16 tq, .int .u8 kf, .slice ka kn kc] 28)).alloc (.cells #[.int .u32 ts', .int .u32 td', .int .u16 tp', .int .u16 tq', .int .u8 kf', .slice ka' kn' kc'] 28) = W0 at *
  have H0 := Lib.hid L0
  clear L0
  cases b1
  · go_wp2
    go_ret
    exact ⟨rfl, H0.out⟩
  · by_cases hk : kf = kf'
    · subst hk
      have e1 : (kf == kf) = true := by simp
      go_wp2
      go_ret
      exact ⟨ret_bool (by rw [HE.out, e1]; rfl), H0.out⟩
    · have e1 : (kf == kf') = false := by simpa using hk
      clear hk
      go_wp2
      go_ret
      exact ⟨ret_bool (by rw [e1]; rfl), H0.out⟩

/-- What flags say: it closes; it is a SYN. -/
def clB (kf : Int) : Bool := (bits .and .u8 kf 1 != 0) || (bits .and .u8 kf 4 != 0)
def syB (kf : Int) : Bool := (bits .and .u8 kf 2 != 0) && !clB kf

set_option maxRecDepth 100000 in
theorem refPkCloses_any (ts td tp tq kf : Int) (ka : Option Addr) (kn kc : Nat) (w : World) :
    Calls Tryd.prog 17 #[.agg #[.int .u32 ts, .int .u32 td, .int .u16 tp, .int .u16 tq, .int .u8 kf, .slice ka kn kc]] w fun e w' => e = .returned (.bool (clB kf)) ∧ Below w.heap.size w w' := by
  have L0 := Lib.hid ((Below.refl w.heap.size w).alloc (Nat.le_refl _) (.cells #[.int .u32 ts, .int .u32 td, .int .u16 tp, .int .u16 tq, .int .u8 kf, .slice ka kn kc] 28))
  unfold clB
  go_enter Tryd.func17, Tryd.ntmps17
  go_wp2
  all_goals
    go_ret
    exact ⟨by simp [*], L0.out⟩

set_option maxRecDepth 100000 in
theorem refPkSyn_any (ts td tp tq kf : Int) (ka : Option Addr) (kn kc : Nat) (w : World) :
    Calls Tryd.prog 15 #[.agg #[.int .u32 ts, .int .u32 td, .int .u16 tp, .int .u16 tq, .int .u8 kf, .slice ka kn kc]] w fun e w' => e = .returned (.bool (syB kf)) ∧ Below w.heap.size w w' := by
  have L0 := (Below.refl w.heap.size w).alloc (Nat.le_refl _) (.cells #[.int .u32 ts, .int .u32 td, .int .u16 tp, .int .u16 tq, .int .u8 kf, .slice ka kn kc] 28)
  have H0 := Lib.hid L0
  unfold syB
  go_enter Tryd.func15, Tryd.ntmps15
  go_wp2_with (go_at_call 17; (with_reducible refine (refPkCloses_any ts td tp tq kf ka kn kc _).mono ?_); rintro e w1 ⟨rfl, m1⟩)
  all_goals
    go_ret
    first
      | exact ⟨by simp [*], H0.out.trans (m1.mono H0.out.size)⟩
      | exact ⟨by simp [*], H0.out⟩

set_option maxRecDepth 100000 in
theorem law5Same_any (a : Option Addr) (n c : Nat) (zs : List Int) (a' : Option Addr) (n' c' : Nat) (ys : List Int) (B B' : Nat) (w : World) (h : Row .u8 B w a zs) (hl : zs.length = n) (h' : Row .u8 B' w a' ys) (hl' : ys.length = n') :
    Calls Tryd.prog 13 #[.slice a n c, .slice a' n' c'] w fun e w' => e = .returned (.bool (eqB zs ys)) ∧ w = w' := by
  have e1 := h.str n c hl
  have e2 := h'.str n' c' hl'
  have HE := Lib.hid (str_eq (row_in h) (row_in h'))
  clear h h' hl hl'
  go_enter Tryd.func13, Tryd.ntmps13
  go_wp2
  go_ret
  exact ⟨ret_bool HE.out, rfl⟩
end Go.Proofs.YtnncmcfonkhckaaDoor

/- A packet that may go on: why bytes are none; bytes that are made; a bit turned. -/
namespace Go.Proofs.YtnncmcfonkhckaaDoor
open SumM

/-- Why bytes are no packet; 0, if they are one. -/
def pkwhy (bs : List Int) : Int :=
  if whyOf bs ≠ 0 then whyOf bs else if segAt bs 6 % 256 ≠ 6 then 7 else twhy (segAt bs 8) (segAt bs 9) (bs.drop (hlOf bs))
/-- The bytes that are made. -/
def mkB (ts td tp tq f : Int) (ps : List Int) : List Int := putOf 0 0 0 64 6 ts td 0 (20 + ps.length) [] (tput ts td tp tq f 20 ps)

theorem mk_nums {ts td : Int} (h1 : 0 ≤ ts ∧ ts ≤ 4294967295) (h2 : 0 ≤ td ∧ td ≤ 4294967295) : Nums 0 0 0 64 6 ts td := ⟨by decide, by decide, by decide, by decide, by decide, h1, h2⟩

theorem mk_facts {ts td tp tq f : Int} {ps : List Int} (h1 : 0 ≤ ts ∧ ts ≤ 4294967295) (h2 : 0 ≤ td ∧ td ≤ 4294967295) (H : TNums tp tq f) (hp : In 255 ps) (hl : ps.length ≤ 65495) :
    (mkB ts td tp tq f ps).length = 40 + ps.length ∧ whyOf (mkB ts td tp tq f ps) = 0 ∧ hlOf (mkB ts td tp tq f ps) = 20 ∧ segAt (mkB ts td tp tq f ps) 6 % 256 = 6 ∧
    segAt (mkB ts td tp tq f ps) 8 = ts ∧ segAt (mkB ts td tp tq f ps) 9 = td ∧ (mkB ts td tp tq f ps).drop 20 = tput ts td tp tq f 20 ps ∧ (mkB ts td tp tq f ps).drop 40 = ps ∧ In 255 (mkB ts td tp tq f ps) := by
  have htl : (tput ts td tp tq f 20 ps).length = 20 + ps.length := tput_length
  have hs : (0 : Nat) ≤ 40 ∧ 0 % 4 = 0 ∧ 20 + 0 + (20 + ps.length) ≤ 65535 := ⟨by omega, rfl, by omega⟩
  have hm : mayB 20 ps.length = true := mayB_yes ⟨by omega, by omega, by omega, by omega⟩
  obtain ⟨c, hc, hc0, hc1, e⟩ := putOf_eq (on := 0) (pn := 20 + ps.length) [] (tput ts td tp tq f 20 ps) (mk_nums h1 h2) hs
  have hw := why_put (on := 0) (pn := 20 + ps.length) [] (tput ts td tp tq f 20 ps) (mk_nums h1 h2) hs rfl htl
  have hg := put_seg (on := 0) (pn := 20 + ps.length) [] (tput ts td tp tq f 20 ps) (mk_nums h1 h2) hs rfl
  have hd : (mkB ts td tp tq f ps).drop 20 = tput ts td tp tq f 20 ps := by
    unfold mkB
    rw [e]
    exact headC_drop20 _ _ _
  have hi : In 255 (tput ts td tp tq f 20 ps) := tput_in H ⟨by omega, by omega⟩ hp
  obtain ⟨s0, s1, s2, s3, s4, s5, s6, s7, s8, s9⟩ := headC_seg (pn := 20 + ps.length) (on := 0) (c / 256) (c % 256) ([] ++ tput ts td tp tq f 20 ps) (mk_nums h1 h2)
  refine ⟨?_, ?_, ?_, ?_, ?_, ?_, hd, ?_, ?_⟩
  · unfold mkB
    rw [putOf_length (on := 0) [] (tput ts td tp tq f 20 ps) (mk_nums h1 h2) hs rfl htl]
    omega
  · unfold mkB
    rw [hw, if_neg (by omega)]
  · unfold mkB
    rw [e]
    exact hlOf_eq s0 ⟨by omega, rfl⟩
  · unfold mkB
    rw [e, s6]
    rfl
  · unfold mkB
    rw [e, s8]
  · unfold mkB
    rw [e, s9]
  · rw [show (40 : Nat) = 20 + 20 from rfl, ← List.drop_drop, hd]
    exact (tput_seg (s := ts) (d := td) H hm).2.2.2.2
  · exact putOf_in (by intro x hx; cases hx) hi

theorem pkwhy_mk {ts td tp tq f : Int} {ps : List Int} (h1 : 0 ≤ ts ∧ ts ≤ 4294967295) (h2 : 0 ≤ td ∧ td ≤ 4294967295) (H : TNums tp tq f) (hp : In 255 ps) (hl : ps.length ≤ 65495) : pkwhy (mkB ts td tp tq f ps) = 0 := by
  obtain ⟨_, e1, e2, e3, e4, e5, e6, _, _⟩ := mk_facts h1 h2 H hp hl
  unfold pkwhy
  rw [e1, if_neg (by omega), e3, if_neg (by omega), e4, e5, e2, e6]
  exact twhy_put h1 h2 H (mayB_yes ⟨by omega, by omega, by omega, by omega⟩) hp

theorem pkwhy_in (bs : List Int) : 0 ≤ pkwhy bs ∧ pkwhy bs ≤ 9 := by
  have h1 := why_in bs
  unfold pkwhy
  split
  · omega
  · split
    · omega
    · rcases twhy_in (segAt bs 8) (segAt bs 9) (bs.drop (hlOf bs)) with h | h | h <;> omega

/-- A byte behind the head turns nothing of the head. -/
theorem seg_set (bs : List Int) (p : Nat) (v : Int) (h : 20 ≤ p) (i : Nat) (hi : i < 10) : segAt (bs.set p v) i = segAt bs i := by
  have ho : offAt i + widthAt i ≤ 20 := by
    obtain rfl | rfl | rfl | rfl | rfl | rfl | rfl | rfl | rfl | rfl : i = 0 ∨ i = 1 ∨ i = 2 ∨ i = 3 ∨ i = 4 ∨ i = 5 ∨ i = 6 ∨ i = 7 ∨ i = 8 ∨ i = 9 := by omega
    all_goals decide
  unfold segAt
  congr 1
  rw [List.drop_set, if_neg (by omega), List.take_set]
  exact List.set_eq_of_length_le (by simp; omega)

theorem why_set (bs : List Int) (p : Nat) (v : Int) (h : 20 ≤ p) (hp : hlOf bs ≤ p) : whyOf (bs.set p v) = whyOf bs ∧ hlOf (bs.set p v) = hlOf bs := by
  have hh : hlOf (bs.set p v) = hlOf bs := by
    unfold hlOf
    rw [seg_set bs p v h 0 (by omega)]
  refine ⟨?_, hh⟩
  unfold whyOf
  rw [hh, List.length_set, seg_set bs p v h 0 (by omega), seg_set bs p v h 2 (by omega), seg_set bs p v h 4 (by omega), seg_set bs p v h 7 (by omega), List.take_set, List.set_eq_of_length_le (by simp; omega)]

/-- A bit turned in what was made, behind its first byte. -/
theorem pkwhy_bit {ts td tp tq f : Int} {ps : List Int} (h1 : 0 ≤ ts ∧ ts ≤ 4294967295) (h2 : 0 ≤ td ∧ td ≤ 4294967295) (H : TNums tp tq f) (hp : In 255 ps) (hl : ps.length ≤ 65495) (p : Nat) (hp1 : 1 ≤ p) (hp2 : p < 40 + ps.length) (v : Int) (hv0 : 0 ≤ v ∧ v ≤ 255) (k : Nat) (hk : k < 8)
    (hv : v = (mkB ts td tp tq f ps)[p]?.getD 0 + (2 ^ k : Nat) ∨ v + (2 ^ k : Nat) = (mkB ts td tp tq f ps)[p]?.getD 0) :
    (p < 20 → 1 ≤ pkwhy ((mkB ts td tp tq f ps).set p v) ∧ pkwhy ((mkB ts td tp tq f ps).set p v) ≤ 7) ∧ (20 ≤ p → 8 ≤ pkwhy ((mkB ts td tp tq f ps).set p v)) := by
  obtain ⟨e0, e1, e2, e3, e4, e5, e6, e7, e8⟩ := mk_facts h1 h2 H hp hl
  have hpos : 0 < (2 ^ k : Nat) := Nat.pos_of_ne_zero (by simp)
  have hne : v ≠ (mkB ts td tp tq f ps)[p]?.getD 0 := by omega
  constructor
  · intro hp20
    have hb := why_byte e8 e1 p hp1 (by omega) v hv0 hne
    have hi := why_in ((mkB ts td tp tq f ps).set p v)
    unfold pkwhy
    rw [if_pos hb]
    omega
  · intro hp20
    obtain ⟨w1, w2⟩ := why_set (mkB ts td tp tq f ps) p v hp20 (by omega)
    have ht : tsum ts td (tput ts td tp tq f 20 ps) = 65535 := tput_right h1 h2 H ⟨by omega, by omega⟩ hp
    have hg : (tput ts td tp tq f 20 ps)[p - 20]?.getD 0 = (mkB ts td tp tq f ps)[p]?.getD 0 := by
      rw [← e6, List.getElem?_drop, show 20 + (p - 20) = p by omega]
    have hb := twhy_bit ht (p - 20) (by rw [tput_length]; show p - 20 < 20 + ps.length; omega) v k hk (by rw [hg]; exact hv)
    have hd : ((mkB ts td tp tq f ps).set p v).drop 20 = (tput ts td tp tq f 20 ps).set (p - 20) v := by
      rw [List.drop_set, if_neg (by omega), e6]
    unfold pkwhy
    rw [w1, e1, if_neg (by omega), seg_set _ p v hp20 6 (by omega), e3, if_neg (by omega), seg_set _ p v hp20 8 (by omega), seg_set _ p v hp20 9 (by omega), e4, e5, w2, e2, hd]
    rcases twhy_in ts td ((tput ts td tp tq f 20 ps).set (p - 20) v) with h | h | h <;> omega
end Go.Proofs.YtnncmcfonkhckaaDoor

/- The document's own Parse of packets. -/
namespace Go.Proofs.YtnncmcfonkhckaaDoor
open Go.RowKit Go.Shelf
open SumM
attribute [local go_sem ↓] Go.wp_at_zero Go.wp_at_succ

theorem Tryd.infoPk : (Tryd.prog.info? 28).map (·.size) = some 6 := by kernel_rfl
theorem results_pk {fn : Func} {p u : Tmp} (h : fn.results = #[.cell p 28, .tmp u]) (tmps : Array Value) (w : World) (g : Nat) (cs : Array Value) (fr : Nat × Nat)
    (hp : tmps.getD p undef = .pointer (some ⟨g, 0, none⟩)) (hg : w.heap[g]? = some (.cells cs 28 fr)) (h9 : cs.size = 6) :
    (results fn tmps).run Tryd.prog w = .ok (.tuple #[.agg cs, tmps.getD u undef]) w := by
  rw [results_cell_tmp h, hp]
  simp only [asAddr, Sem.run_pure, Result.andThen_ok]
  rw [run_loadVar_row w g 28 28 cs fr _ hg Tryd.underlying28 rfl (by rw [h9]; exact Tryd.infoPk)]
  rfl
theorem pk_frozen {w : World} {b : Nat} {cs : Array Value} {t : TypeId} (h : w.heap[b]? = some (.cells cs t (0, 0))) (i : Nat) : w.frozen? ⟨b, i, none⟩ = false := by simp [World.frozen?, h]

theorem cell_s6 {W : World} {b b' j : Nat} {v v0 v1 v2 v3 v4 v5 : Value} (hne : b ≠ b') (h : W.cell? ⟨b, j, none⟩ = some v) :
    ((((((W.setCell ⟨b', 0, none⟩ v0).setCell ⟨b', 1, none⟩ v1).setCell ⟨b', 2, none⟩ v2).setCell ⟨b', 3, none⟩ v3).setCell ⟨b', 4, none⟩ v4).setCell ⟨b', 5, none⟩ v5).cell? ⟨b, j, none⟩ = some v := cell_sc (vs := [v0, v1, v2, v3, v4, v5]) hne h
/-- What Parse answers. -/
def PkParseRet (bs : List Int) (w : World) (e : Ending) (w' : World) : Prop :=
  (pkwhy bs ≠ 0 ∧ e = .returned (.tuple #[.agg #[.int .u32 0, .int .u32 0, .int .u16 0, .int .u16 0, .int .u8 0, .slice none 0 0], .int .u8 (pkwhy bs)]) ∧ Below w.heap.size w w') ∨
  (pkwhy bs = 0 ∧ ∃ A c, e = .returned (.tuple #[.agg #[.int .u32 (segAt bs 8), .int .u32 (segAt bs 9), .int .u16 (wordAt (bs.drop (hlOf bs)) 0), .int .u16 (wordAt (bs.drop (hlOf bs)) 1), .int .u8 ((bs.drop (hlOf bs))[13]?.getD 0), .slice A bs.length c], .int .u8 0]) ∧
    w'.ownsRow w.heap.size 5 1 (.slice A bs.length c) bs.length (bs.map (Value.int .u8)) ∧ Below w.heap.size w w')

set_option maxRecDepth 100000 in
set_option maxHeartbeats 8000000 in
theorem refPkParse_any (a : Option Addr) (len cap : Nat) (bs : List Int) (hlen : bs.length = len) (hlc : len ≤ cap) (hc : cap ≤ 9223372036854775807) (hln : len ≤ 1000000) (w : World) (hR : Row .u8 w.heap.size w a bs) :
    Calls Tryd.prog 9 #[.slice a len cap] w (PkParseRet bs w) := by
  have HI := Lib.hid (row_in hR)
  have hd0 := heap_alloc_new w (.cells #[.int .u32 0, .int .u32 0, .int .u16 0, .int .u16 0, .int .u8 0, .slice none 0 0] 28)
  have L0 : Below w.heap.size w (w.alloc (.cells #[.int .u32 0, .int .u32 0, .int .u16 0, .int .u16 0, .int .u8 0, .slice none 0 0] 28)) := (Below.refl _ w).alloc (Nat.le_refl _) _
  have RS := Lib.hid (fun W (m : Below w.heap.size w W) => (hR.below m).more m.size)
  have HL := Lib.hid hlen
  have HLN := Lib.hid (And.intro hln (And.intro hlc hc))
  have hg0 : w.heap.size < (w.alloc (.cells #[.int .u32 0, .int .u32 0, .int .u16 0, .int .u16 0, .int .u8 0, .slice none 0 0] 28)).heap.size := by simp
  clear hR hlen
  go_enter Tryd.func9, Tryd.ntmps9
  go_upto_region 1 with (fail)
  generalize w.alloc (.cells #[.int .u32 0, .int .u32 0, .int .u16 0, .int .u16 0, .int .u8 0, .slice none 0 0] 28) = W0 at *
  go_wp2_with (fail)
  refine (refParse_any a len cap bs HL.out hlc hc hln W0 (RS.out W0 L0)).mono ?_
  rintro e w1 (⟨hy, rfl, m1⟩ | ⟨hy, v, rfl, oa, oc, pa, pc, rfl, ho, hp, m1⟩)
  · have L1 := L0.trans (m1.mono L0.size)
    have hd1 := (m1.block _ hg0).trans hd0
    have p1 : (whyOf bs != 0) = true := by simpa using hy
    have HK := Lib.hid (show pkwhy bs = whyOf bs ∧ pkwhy bs ≠ 0 by unfold pkwhy; rw [if_pos hy]; exact ⟨rfl, hy⟩)
    generalize whyOf bs = y at *
    clear hd0 m1 hy L0 hg0
    go_upto_region 2 with (fail)
    have hd2 := (Below.heap_alloc w1 (.cells #[.int .u8 0, .int .u16 0, .int .u16 0, .int .u8 0, .int .u8 0, .int .u32 0, .int .u32 0, .slice none 0 0, .slice none 0 0] 42) w.heap.size (Array.getElem?_eq_some_iff.1 hd1).1).trans hd1
    have L2 := L1.alloc L1.size (.cells #[.int .u8 0, .int .u16 0, .int .u16 0, .int .u8 0, .int .u8 0, .int .u32 0, .int .u32 0, .slice none 0 0, .slice none 0 0] 42)
    generalize w1.alloc (.cells #[.int .u8 0, .int .u16 0, .int .u16 0, .int .u8 0, .int .u8 0, .int .u32 0, .int .u32 0, .slice none 0 0, .slice none 0 0] 42) = W1 at *
    obtain ⟨q0, q1, q2, q3, q4, q5⟩ := pk_cells _ _ _ _ _ _ _ _ hd2
    have f0 := pk_frozen hd2 0
    have f1 := pk_frozen hd2 1
    have f2 := pk_frozen hd2 2
    have f3 := pk_frozen hd2 3
    have f4 := pk_frozen hd2 4
    have f5 := pk_frozen hd2 5
    have C2 := Lib.hid hd2
    have B2 := Lib.hid L2
    clear hd1 hd2 L1 L2
    go_wp2
    refine bodyPost_ret (results_pk rfl _ _ w.heap.size _ (0, 0) rfl (full_setCells C2.out [.int .u32 0, .int .u32 0, .int .u16 0, .int .u16 0, .int .u8 0, .slice none 0 0] rfl) rfl) rfl ?_
    exact .inl ⟨HK.out.2, by rw [HK.out.1]; rfl, below_setCells w.heap.size (Nat.le_refl _) [.int .u32 0, .int .u32 0, .int .u16 0, .int .u16 0, .int .u8 0, .slice none 0 0] 0 w _ B2.out⟩
  · have L1 := L0.trans (m1.mono L0.size)
    have hd1 := (m1.block _ hg0).trans hd0
    have h8 := segAt_in HI.out 8
    have h9 := segAt_in HI.out 9
    have hps := own_cap hp
    have hpl : (bs.drop (hlOf bs)).length ≤ 1000000 := by
      have := HL.out
      have := HLN.out.1
      simp
      omega
    have RT := Lib.hid (Row.of_own hp (in_wf8 (in_drop HI.out (hlOf bs))))
    have HW := Lib.hid hy
    have HKD := Lib.hid (show pkwhy bs = if segAt bs 6 % 256 ≠ 6 then 7 else twhy (segAt bs 8) (segAt bs 9) (bs.drop (hlOf bs)) by unfold pkwhy; rw [if_neg (by omega)])
    have HD := Lib.hid (show PkParseRet bs w = PkParseRet bs w from rfl)
    clear hd0 hy L0 hg0 ho
    generalize hS1 : segAt bs 1 % 256 = s1 at *
    generalize hS3 : segAt bs 3 % 65536 = s3 at *
    generalize hS4 : segAt bs 4 % 65536 = s4 at *
    generalize hS5 : segAt bs 5 % 256 = s5 at *
    generalize hS6 : segAt bs 6 % 256 = s6 at *
    have D8 : ∃ x, segAt bs 8 = x := ⟨_, rfl⟩
    obtain ⟨s8, hS8⟩ := D8
    have D9 : ∃ x, segAt bs 9 = x := ⟨_, rfl⟩
    obtain ⟨s9, hS9⟩ := D9
    rw [hS8] at h8
    rw [hS9] at h9
    rw [hS8, hS9] at HKD
    rw [hS8, hS9]
    have DT : ∃ x, bs.drop (hlOf bs) = x := ⟨_, rfl⟩
    obtain ⟨tb, hTB⟩ := DT
    rw [hTB] at HKD RT hps hpl hp
    rw [hTB]
    have DN : ∃ n, tb.length = n := ⟨_, rfl⟩
    obtain ⟨tn, hTN⟩ := DN
    rw [hTN] at hps hpl
    rw [hTN]
    have DO : ∃ n, (List.drop 20 (List.take (hlOf bs) bs)).length = n := ⟨_, rfl⟩
    obtain ⟨on, hON⟩ := DO
    rw [hON]
    have HQ := Lib.hid (And.intro hS8 (And.intro hS9 (And.intro hTB hTN)))
    clear hS1 hS3 hS4 hS5 hS6 hS8 hS9 hTB hTN hON hp HD
    go_upto_region 2 with (fail)
    have bH := heap_alloc_new w1 (.cells #[.int .u8 s1, .int .u16 s3, .int .u16 s4, .int .u8 s5, .int .u8 s6, .int .u32 s8, .int .u32 s9, .slice oa on oc, .slice pa tn pc] 42)
    have hd2 := (Below.heap_alloc w1 (.cells #[.int .u8 s1, .int .u16 s3, .int .u16 s4, .int .u8 s5, .int .u8 s6, .int .u32 s8, .int .u32 s9, .slice oa on oc, .slice pa tn pc] 42) w.heap.size (Array.getElem?_eq_some_iff.1 hd1).1).trans hd1
    have L2 := L1.alloc L1.size (.cells #[.int .u8 s1, .int .u16 s3, .int .u16 s4, .int .u8 s5, .int .u8 s6, .int .u32 s8, .int .u32 s9, .slice oa on oc, .slice pa tn pc] 42)
    have RT2 := Lib.hid (RT.out.allocS (.cells #[.int .u8 s1, .int .u16 s3, .int .u16 s4, .int .u8 s5, .int .u8 s6, .int .u32 s8, .int .u32 s9, .slice oa on oc, .slice pa tn pc] 42))
    have hbh : w.heap.size < w1.heap.size := (Array.getElem?_eq_some_iff.1 hd1).1
    generalize w1.alloc (.cells #[.int .u8 s1, .int .u16 s3, .int .u16 s4, .int .u8 s5, .int .u8 s6, .int .u32 s8, .int .u32 s9, .slice oa on oc, .slice pa tn pc] 42) = W1 at *
    generalize w1.heap.size = bh at *
    obtain ⟨x0, x1, x2, x3, x4, x5, x6, x7, x8⟩ := head_cells _ _ _ _ _ _ _ _ _ _ _ _ _ bH
    by_cases h6 : s6 = 6
    · have HK := Lib.hid (show pkwhy bs = twhy s8 s9 tb by rw [HKD.out, if_neg (by omega)])
      have p2 : (s6 != 6) = false := by simpa using h6
      clear h6 HKD hd1 L1 RT
      go_wp2_with (fail)
      refine (refTcpParse_any s8 s9 h8 h9 pa tn pc tb HQ.out.2.2.2 hps.1 hps.2 hpl W1 RT2.out).mono ?_
      rintro e w3 (⟨hy2, rfl, m3⟩ | ⟨hy2, A3, c3, rfl, ho3, m3⟩)
      · have L3 := L2.trans (m3.mono L2.size)
        have hd3 := (m3.block _ (Array.getElem?_eq_some_iff.1 hd2).1).trans hd2
        have p1 : (twhy s8 s9 tb != 0) = true := by simpa using hy2
        have HN := Lib.hid (show pkwhy bs ≠ 0 by rw [HK.out]; exact hy2)
        have HK2 := Lib.hid HK.out
        generalize twhy s8 s9 tb = y at *
        clear hd2 L2 hy2 bH x0 x1 x2 x3 x4 x5 x6 x7 x8 RT2 HK m3 h8 h9
        go_upto_region 7 with (fail)
        have hd2 := (Below.heap_alloc w3 (.cells #[.int .u16 0, .int .u16 0, .int .u8 0, .int .i64 0, .slice none 0 0] 46) w.heap.size (Array.getElem?_eq_some_iff.1 hd3).1).trans hd3
        have L2 := L3.alloc L3.size (.cells #[.int .u16 0, .int .u16 0, .int .u8 0, .int .i64 0, .slice none 0 0] 46)
        generalize w3.alloc (.cells #[.int .u16 0, .int .u16 0, .int .u8 0, .int .i64 0, .slice none 0 0] 46) = W4 at *
        obtain ⟨q0, q1, q2, q3, q4, q5⟩ := pk_cells _ _ _ _ _ _ _ _ hd2
        have f0 := pk_frozen hd2 0
        have f1 := pk_frozen hd2 1
        have f2 := pk_frozen hd2 2
        have f3 := pk_frozen hd2 3
        have f4 := pk_frozen hd2 4
        have f5 := pk_frozen hd2 5
        have C2 := Lib.hid hd2
        have B2 := Lib.hid L2
        clear hd2 L2 hd3 L3
        go_wp2
        refine bodyPost_ret (results_pk rfl _ _ w.heap.size _ (0, 0) rfl (full_setCells C2.out [.int .u32 0, .int .u32 0, .int .u16 0, .int .u16 0, .int .u8 0, .slice none 0 0] rfl) rfl) rfl ?_
        exact .inl ⟨HN.out, by rw [HK2.out]; rfl, below_setCells w.heap.size (Nat.le_refl _) [.int .u32 0, .int .u32 0, .int .u16 0, .int .u16 0, .int .u8 0, .slice none 0 0] 0 w _ B2.out⟩
      · have L3 := L2.trans (m3.mono L2.size)
        have hd3 := (m3.block _ (Array.getElem?_eq_some_iff.1 hd2).1).trans hd2
        have bH3 := (m3.block _ (Array.getElem?_eq_some_iff.1 bH).1).trans bH
        have HN := Lib.hid (show pkwhy bs = 0 by rw [HK.out]; exact hy2)
        have h20 : 0 < len := by
          have h1 := (why_zero HW.out).1
          have h2 := HL.out
          omega
        have RA := (RS.out w (Below.refl _ _)).2 (by rw [HL.out]; exact h20)
        obtain ⟨b, off, rfl, hb, _⟩ := RA
        have G0 : ∃ x, wordAt tb 0 = x := ⟨_, rfl⟩
        obtain ⟨t0, ht0⟩ := G0
        have G1 : ∃ x, wordAt tb 1 = x := ⟨_, rfl⟩
        obtain ⟨t1, ht1⟩ := G1
        have G2 : ∃ x, tb[13]?.getD 0 = x := ⟨_, rfl⟩
        obtain ⟨t2, ht2⟩ := G2
        have G3 : ∃ x, thl tb = x := ⟨_, rfl⟩
        obtain ⟨t3, ht3⟩ := G3
        have G4 : ∃ x, (tb.drop (thl tb).toNat).length = x := ⟨_, rfl⟩
        obtain ⟨dn, hdn⟩ := G4
        rw [ht0, ht1, ht2, hdn, ht3]
        have HG := Lib.hid (And.intro ht0 (And.intro ht1 ht2))
        clear hd2 L2 hy2 bH x0 x1 x2 x3 x4 x5 x6 x7 x8 RT2 HK m3 h8 h9 ho3 ht0 ht1 ht2 ht3 hdn
        go_upto_region 7 with (fail)
        have bT := heap_alloc_new w3 (.cells #[.int .u16 t0, .int .u16 t1, .int .u8 t2, .int .i64 t3, .slice A3 dn c3] 46)
        have hd2 := (Below.heap_alloc w3 (.cells #[.int .u16 t0, .int .u16 t1, .int .u8 t2, .int .i64 t3, .slice A3 dn c3] 46) w.heap.size (Array.getElem?_eq_some_iff.1 hd3).1).trans hd3
        have bH4 := (Below.heap_alloc w3 (.cells #[.int .u16 t0, .int .u16 t1, .int .u8 t2, .int .i64 t3, .slice A3 dn c3] 46) bh (Array.getElem?_eq_some_iff.1 bH3).1).trans bH3
        have L2 := L3.alloc L3.size (.cells #[.int .u16 t0, .int .u16 t1, .int .u8 t2, .int .i64 t3, .slice A3 dn c3] 46)
        have hbt : w.heap.size < w3.heap.size := (Array.getElem?_eq_some_iff.1 hd3).1
        generalize w3.alloc (.cells #[.int .u16 t0, .int .u16 t1, .int .u8 t2, .int .i64 t3, .slice A3 dn c3] 46) = w4 at *
        generalize w3.heap.size = bt at *
        have HD1 := Lib.hid hd2
        have HL1 := Lib.hid L2
        have hlt1 : w.heap.size < w4.heap.size := (Array.getElem?_eq_some_iff.1 hd2).1
        have hsz : w.heap.size ≤ w4.heap.size := L2.size
        have CS := Lib.hid (fun w' (m : Below w4.heap.size w4 w') => show w'.cell? ⟨bh, 5, none⟩ = some (.int .u32 s8) ∧ w'.cell? ⟨bh, 6, none⟩ = some (.int .u32 s9) ∧ w'.cell? ⟨bt, 0, none⟩ = some (.int .u16 t0) ∧ w'.cell? ⟨bt, 1, none⟩ = some (.int .u16 t1) ∧ w'.cell? ⟨bt, 2, none⟩ = some (.int .u8 t2) from
          have hh := head_cells _ _ _ _ _ _ _ _ _ _ _ _ _ ((m.block _ (Array.getElem?_eq_some_iff.1 bH4).1).trans bH4)
          have ht := tcp_cells _ _ _ _ _ _ _ ((m.block _ (Array.getElem?_eq_some_iff.1 bT).1).trans bT)
          ⟨hh.2.2.2.2.2.1, hh.2.2.2.2.2.2.1, ht.1, ht.2.1, ht.2.2.1⟩)
        have N0 : Below w4.heap.size w4 w4.drew := (Below.refl _ _).drew
        have NA : Below w4.heap.size w4 (w4.drew.alloc (.cells #[] 5)) := N0.alloc (Nat.le_refl _) _
        have NB : Below w4.heap.size w4 (w4.alloc (.cells #[] 5)).drew := ((Below.refl _ _).alloc (Nat.le_refl _) _).drew
        have OA := Lib.hid (show (w4.drew.alloc (.cells #[] 5)).ownsRow w4.heap.size 5 1 (.slice (some ⟨w4.heap.size, 0, none⟩) 0 0) 0 [] from own_built w4.drew w4.heap.size (Nat.le_refl _) 5 [] 0 rfl (by unfold maxLen; omega))
        have RP := Lib.hid (fun W' (m : Below w4.heap.size w4 W') => RS.out W' (L2.trans (m.mono L2.size)))
        have hne1 : bh ≠ w.heap.size := by omega
        have hne2 : bt ≠ w.heap.size := by omega
        have hl2 : len ≤ 1000000 := HLN.out.1
        obtain ⟨i0, hi, hz0', hz1, hz2⟩ := info_parts Tryd.infoU8
        clear hd2 hd3 L2 L3 bH3 bH4 bT hbh hbt
        go_wp2
        go_region_held3 (fun w' => w'.cell? ⟨bh, 5, none⟩ = some (.int .u32 s8) ∧ w'.cell? ⟨bh, 6, none⟩ = some (.int .u32 s9) ∧ w'.cell? ⟨bt, 0, none⟩ = some (.int .u16 t0) ∧ w'.cell? ⟨bt, 1, none⟩ = some (.int .u16 t1) ∧ w'.cell? ⟨bt, 2, none⟩ = some (.int .u8 t2)) (first | with_reducible exact CS.out _ NA | with_reducible exact CS.out _ NB | with_reducible exact HC10 | with_reducible exact ⟨cell_s6 hne1 HC10.1, cell_s6 hne1 HC10.2.1, cell_s6 hne2 HC10.2.2.1, cell_s6 hne2 HC10.2.2.2.1, cell_s6 hne2 HC10.2.2.2.2⟩ | with_reducible exact CS.out _ N0)
          (first
            | (refine step_append_some _ (by rfl) _ _ _ (by rfl) w4.heap.size 5 i0 (.int .u8 0) 1 Tryd.underlying22 hi hz0' hz1 hz2 rfl (.slice (some ⟨w4.heap.size, 0, none⟩) 0 0) 0 [] (by rfl) OA.out ⟨b, off, none⟩ len cap (bs.map (Value.int .u8)) (by rfl) (by rw [List.length_map, HL.out]) (row_cells (RP.out _ NA)) (one_u8 _) (by unfold maxLen; omega) (by omega) (by simp) ?_; intro v10 w10 O10 hg10; simp only [Nat.zero_add, List.nil_append] at O10; have M10 : Below w4.heap.size w4 w10 := (below_drew ((Below.refl _ w4.drew).alloc (Nat.le_refl _) _)).grown hg10 (by simp) (fun e he => by cases he; exact Nat.le_refl _); obtain ⟨A10, c10, rfl⟩ := own_slice O10; have N10 : Below w.heap.size w w10 := HL1.out.trans (M10.mono HL1.out.size); have D10 := (M10.block _ hlt1).trans HD1.out; obtain ⟨z0, z1, z2, z3, z4, z5⟩ := pk_cells _ _ _ _ _ _ _ _ D10; have g0 := pk_frozen D10 0; have g1 := pk_frozen D10 1; have g2 := pk_frozen D10 2; have g3 := pk_frozen D10 3; have g4 := pk_frozen D10 4; have g5 := pk_frozen D10 5; have HD10 := Lib.hid D10; clear D10; have HC10 := CS.out _ M10))
        clear z0 z1 z2 z3 z4 z5 g0 g1 g2 g3 g4 g5
        have C12 := full_setCells HD10.out [.int .u32 s8, .int .u32 s9, .int .u16 t0, .int .u16 t1, .int .u8 t2, .slice A10 len c10] rfl
        have L12 := below_setCells w.heap.size (Nat.le_refl _) [.int .u32 s8, .int .u32 s9, .int .u16 t0, .int .u16 t1, .int .u8 t2, .slice A10 len c10] 0 w _ N10
        have O12 := own_apartN (by decide) [.int .u32 s8, .int .u32 s9, .int .u16 t0, .int .u16 t1, .int .u8 t2, .slice A10 len c10] 0 _ _ O10 HD10.out
        go_wp2
        refine bodyPost_ret (results_pk rfl _ _ w.heap.size _ (0, 0) rfl C12 rfl) rfl ?_
        unfold PkParseRet
        rw [HQ.out.1, HQ.out.2.1, HQ.out.2.2.1, HG.out.1, HG.out.2.1, HG.out.2.2, HL.out]
        exact .inr ⟨HN.out, A10, c10, rfl, own_base O12 hsz, L12⟩
    · have HK := Lib.hid (show pkwhy bs = 7 by rw [HKD.out, if_pos h6])
      have p2 : (s6 != 6) = true := by simpa using h6
      obtain ⟨q0, q1, q2, q3, q4, q5⟩ := pk_cells _ _ _ _ _ _ _ _ hd2
      have f0 := pk_frozen hd2 0
      have f1 := pk_frozen hd2 1
      have f2 := pk_frozen hd2 2
      have f3 := pk_frozen hd2 3
      have f4 := pk_frozen hd2 4
      have f5 := pk_frozen hd2 5
      have C2 := Lib.hid hd2
      have B2 := Lib.hid L2
      clear hd1 hd2 L1 L2 h6 HKD
      go_wp2
      refine bodyPost_ret (results_pk rfl _ _ w.heap.size _ (0, 0) rfl (full_setCells C2.out [.int .u32 0, .int .u32 0, .int .u16 0, .int .u16 0, .int .u8 0, .slice none 0 0] rfl) rfl) rfl ?_
      exact .inl ⟨by rw [HK.out]; decide, by rw [HK.out]; rfl, below_setCells w.heap.size (Nat.le_refl _) [.int .u32 0, .int .u32 0, .int .u16 0, .int .u16 0, .int .u8 0, .slice none 0 0] 0 w _ B2.out⟩
end Go.Proofs.YtnncmcfonkhckaaDoor

/- The document's own Make of packets. -/
namespace Go.Proofs.YtnncmcfonkhckaaDoor
open Go.RowKit Go.Shelf
open SumM

/-- The bytes that Make tells: none, if they were too many. -/
def mkZ (ts td tp tq f : Int) (ps : List Int) : List Int := if 40 + ps.length ≤ 65535 then mkB ts td tp tq f ps else []
def PkMakeRet (ts td tp tq f : Int) (ps : List Int) (w : World) (e : Ending) (w' : World) : Prop :=
  ∃ A n c, e = .returned (.tuple #[.slice A n c, .bool (decide (40 + ps.length ≤ 65535))]) ∧ (mkZ ts td tp tq f ps).length = n ∧ Row .u8 w'.heap.size w' A (mkZ ts td tp tq f ps) ∧ (A = none → c = 0) ∧ n ≤ c ∧ c ≤ 9223372036854775807 ∧ Below w.heap.size w w'

theorem mk_no {ts td tp tq f : Int} {ps : List Int} {w w' : World} (h : ¬ 40 + ps.length ≤ 65535) (m : Below w.heap.size w w') : PkMakeRet ts td tp tq f ps w (.returned (.tuple #[.slice none 0 0, .bool false])) w' :=
  ⟨none, 0, 0, by rw [decide_eq_false h], by unfold mkZ; rw [if_neg h]; rfl, by unfold mkZ; rw [if_neg h]; exact Row.nil _ _ _ _, fun _ => rfl, Nat.le_refl _, by omega, m⟩
theorem mk_yes {ts td tp tq f : Int} {ps : List Int} {w w1 w' : World} {A : Option Addr} {c n : Nat} (h : 40 + ps.length ≤ 65535) (_ : n = 40 + ps.length) (hi : In 255 (mkB ts td tp tq f ps)) (_ : w.heap.size ≤ w1.heap.size)
    (o : w'.ownsRow w1.heap.size 5 1 (.slice A n c) n ((mkB ts td tp tq f ps).map (Value.int .u8))) (m : Below w.heap.size w w') : PkMakeRet ts td tp tq f ps w (.returned (.tuple #[.slice A n c, .bool true])) w' := by
  have hl : (mkB ts td tp tq f ps).length = n := by have := o.1; simpa using this
  refine ⟨A, n, c, by rw [decide_eq_true h], by unfold mkZ; rw [if_pos h]; exact hl, by unfold mkZ; rw [if_pos h]; exact Row.of_own o (in_wf8 hi), fun hA => ?_, (own_cap o).1, (own_cap o).2, m⟩
  subst hA
  rcases o.2 with ⟨h1, _⟩ | ⟨g, cap, cur, h1, _⟩
  · injection h1 with h1 h2 h3
  · injection h1 with h1
    cases h1

set_option maxRecDepth 100000 in
set_option maxHeartbeats 4000000 in
theorem refPkMake_any (ts td tp tq : Int) (kf : Int) (da : Option Addr) (dn dc : Nat) (ps : List Int) (H : UNums ts td tp tq) (hk : 0 ≤ kf ∧ kf ≤ 255) (hdn : dn ≤ 281474976710600) (w : World) (hrp : Row .u8 w.heap.size w da ps) (hpl : ps.length = dn) (hpn : da = none → dc = 0) :
    Calls Tryd.prog 11 #[.agg #[.int .u32 ts, .int .u32 td, .int .u16 tp, .int .u16 tq], .int .u8 kf, .slice da dn dc] w (PkMakeRet ts td tp tq kf ps w) := by
  have hd0 := heap_alloc_new w (.cells #[.int .u32 ts, .int .u32 td, .int .u16 tp, .int .u16 tq] 26)
  have L0 : Below w.heap.size w (w.alloc (.cells #[.int .u32 ts, .int .u32 td, .int .u16 tp, .int .u16 tq] 26)) := (Below.refl _ w).alloc (Nat.le_refl _) _
  have HT : TNums tp tq kf := ⟨H.h3, H.h4, hk⟩
  have HI := Lib.hid (row_in hrp)
  have HH := Lib.hid H
  have HTT := Lib.hid HT
  have HPL := Lib.hid hpl
  have hg0 : w.heap.size < (w.alloc (.cells #[.int .u32 ts, .int .u32 td, .int .u16 tp, .int .u16 tq] 26)).heap.size := by simp
  have K := Lib.hid (refTcpPut_as ts td tp tq kf 20 da dn dc ps H.h1 H.h2 HT (by omega) (by omega) _ ((hrp.below L0).more L0.size) hpl hpn)
  obtain ⟨q0, q1, q2, q3⟩ := tup_cells _ _ _ _ hd0
  clear HT H hk hrp hpl hpn
  go_enter Tryd.func11, Tryd.ntmps11
  go_upto_region 1 with (fail)
  generalize w.alloc (.cells #[.int .u32 ts, .int .u32 td, .int .u16 tp, .int .u16 tq] 26) = W0 at *
  go_wp2_with (fail)
  refine K.out.mono ?_
  rintro e w1 ⟨A1, n1, c1, rfl, hz1, R1, hn1, hc1, hcm1, m1⟩
  have L1 := L0.trans (m1.mono L0.size)
  have hd1 := (m1.block _ hg0).trans hd0
  clear q0 q1 q2 q3 K hd0 hg0 L0 m1
  obtain ⟨q0, q1, q2, q3⟩ := tup_cells _ _ _ _ hd1
  have HL1 := Lib.hid L1
  clear hd1 L1
  by_cases h1 : mayB 20 dn = true
  · have hm := mayB_le h1
    have e1 : tputB ts td tp tq kf 20 dn ps = tput ts td tp tq kf 20 ps := by unfold tputB; rw [if_pos h1]
    rw [e1] at hz1 R1
    rw [h1]
    have hn : n1 = 20 + dn := by rw [← hz1, tput_length, HPL.out]; rfl
    have HN := Lib.hid hn
    have HZ1 := Lib.hid hz1
    have HR1 := Lib.hid R1
    have HN1 := Lib.hid hn1
    clear hz1 R1 hn1 h1 e1 hm
    by_cases h2 : 40 + dn ≤ 65535
    · have hrt : rightB 0 0 n1 = true := decide_eq_true ⟨.inl rfl, by omega, rfl, by omega⟩
      have K := Lib.hid (refPut_n 0 0 0 64 6 ts td none 0 0 A1 n1 c1 [] (tput ts td tp tq kf 20 ps) (mk_nums HH.out.h1 HH.out.h2) hrt w1 (Row.nil _ _ _ _) rfl (fun _ => rfl) HR1.out HZ1.out HN1.out)
      have HF := Lib.hid (mk_facts HH.out.h1 HH.out.h2 HTT.out HI.out (by rw [HPL.out]; omega))
      clear hrt hn
      go_wp2_with (fail)
      refine K.out.mono ?_
      rintro e w2 ⟨A2, c2, rfl, o2, m2⟩
      go_wp2
      go_ret2
      have EB : putOf 0 0 0 64 6 ts td 0 n1 [] (tput ts td tp tq kf 20 ps) = mkB ts td tp tq kf ps := by
        unfold mkB
        rw [HN.out, HPL.out]
      rw [EB] at o2
      exact mk_yes (by rw [HPL.out]; exact h2) (by rw [HN.out, HPL.out]; omega) HF.out.2.2.2.2.2.2.2.2 HL1.out.size o2 (HL1.out.trans (m2.mono HL1.out.size))
    · have hrt : rightB 0 0 n1 = false := decide_eq_false (by omega)
      have K := Lib.hid (refPut_no 0 0 0 64 6 ts td none 0 0 A1 n1 c1 hrt (by omega) (by omega) w1)
      clear hrt hn
      go_wp2_with (fail)
      refine K.out.mono ?_
      rintro e w2 ⟨rfl, m2⟩
      go_wp2
      go_ret2
      exact mk_no (by rw [HPL.out]; exact h2) (HL1.out.trans (m2.mono HL1.out.size))
  · have h1' : mayB 20 dn = false := by simpa using h1
    rw [h1']
    have h2 : ¬ 40 + dn ≤ 65535 := fun h => h1 (mayB_yes ⟨by omega, by omega, by omega, by omega⟩)
    clear h1 h1' hz1 R1 hn1
    go_wp2
    go_ret2
    exact mk_no (by rw [HPL.out]; exact h2) HL1.out
end Go.Proofs.YtnncmcfonkhckaaDoor

/- What Parse of packets answers, in one form. -/
namespace Go.Proofs.YtnncmcfonkhckaaDoor
open Go.RowKit Go.Shelf
open SumM

structure PkIs (bs : List Int) (ts td tp tq kf : Int) (zs : List Int) : Prop where
  h1 : ts = if pkwhy bs = 0 then segAt bs 8 else 0
  h2 : td = if pkwhy bs = 0 then segAt bs 9 else 0
  h3 : tp = if pkwhy bs = 0 then wordAt (bs.drop (hlOf bs)) 0 else 0
  h4 : tq = if pkwhy bs = 0 then wordAt (bs.drop (hlOf bs)) 1 else 0
  h5 : kf = if pkwhy bs = 0 then (bs.drop (hlOf bs))[13]?.getD 0 else 0
  h6 : zs = if pkwhy bs = 0 then bs else []
def PkAs (bs : List Int) (w : World) (e : Ending) (w' : World) : Prop :=
  ∃ (ts td tp tq kf : Int) (ka : Option Addr) (kn kc : Nat), ∃ zs : List Int, e = .returned (.tuple #[.agg #[.int .u32 ts, .int .u32 td, .int .u16 tp, .int .u16 tq, .int .u8 kf, .slice ka kn kc], .int .u8 (pkwhy bs)]) ∧ PkIs bs ts td tp tq kf zs ∧ Row .u8 w'.heap.size w' ka zs ∧ zs.length = kn ∧ Below w.heap.size w w'
theorem pk_as {bs : List Int} {w : World} {e : Ending} {w' : World} (hin : In 255 bs) (h : PkParseRet bs w e w') : PkAs bs w e w' := by
  rcases h with ⟨h0, rfl, hb⟩ | ⟨h0, A, c, rfl, h1, hb⟩
  · exact ⟨_, _, _, _, _, _, _, _, [], rfl, ⟨by rw [if_neg h0], by rw [if_neg h0], by rw [if_neg h0], by rw [if_neg h0], by rw [if_neg h0], by rw [if_neg h0]⟩, Row.nil _ _ _ _, rfl, hb⟩
  · exact ⟨_, _, _, _, _, _, _, _, bs, by rw [h0], ⟨by rw [if_pos h0], by rw [if_pos h0], by rw [if_pos h0], by rw [if_pos h0], by rw [if_pos h0], by rw [if_pos h0]⟩, Row.of_own h1 (in_wf8 hin), rfl, hb⟩
theorem PkIs.zero {bs : List Int} {ts td tp tq kf : Int} {zs : List Int} (h : PkIs bs ts td tp tq kf zs) (h0 : pkwhy bs ≠ 0) : ts = 0 ∧ td = 0 ∧ tp = 0 ∧ tq = 0 ∧ kf = 0 ∧ zs = [] :=
  ⟨by rw [h.h1, if_neg h0], by rw [h.h2, if_neg h0], by rw [h.h3, if_neg h0], by rw [h.h4, if_neg h0], by rw [h.h5, if_neg h0], by rw [h.h6, if_neg h0]⟩
theorem PkIs.one {bs : List Int} {ts td tp tq kf : Int} {zs : List Int} (h : PkIs bs ts td tp tq kf zs) (h0 : pkwhy bs = 0) : ts = segAt bs 8 ∧ td = segAt bs 9 ∧ tp = wordAt (bs.drop (hlOf bs)) 0 ∧ tq = wordAt (bs.drop (hlOf bs)) 1 ∧ kf = (bs.drop (hlOf bs))[13]?.getD 0 ∧ zs = bs :=
  ⟨by rw [h.h1, if_pos h0], by rw [h.h2, if_pos h0], by rw [h.h3, if_pos h0], by rw [h.h4, if_pos h0], by rw [h.h5, if_pos h0], by rw [h.h6, if_pos h0]⟩
theorem pkB_same (ts td tp tq kf : Int) (zs : List Int) : pkB ts td tp tq kf zs ts td tp tq kf zs = true := by
  unfold pkB
  rw [eqU_same, eqB_true.2 rfl]
  simp
theorem PkIs.same {bs : List Int} {ts td tp tq kf ts' td' tp' tq' kf' : Int} {zs zs' : List Int} (h : PkIs bs ts td tp tq kf zs) (k : PkIs bs ts' td' tp' tq' kf' zs') : pkB ts td tp tq kf zs ts' td' tp' tq' kf' zs' = true := by
  rw [h.h1, h.h2, h.h3, h.h4, h.h5, h.h6, k.h1, k.h2, k.h3, k.h4, k.h5, k.h6]
  exact pkB_same _ _ _ _ _ _
end Go.Proofs.YtnncmcfonkhckaaDoor

/- A packet that came in, opened. -/
namespace Go.Proofs.YtnncmcfonkhckaaDoor
open Go.RowKit Go.Joins Go.ChangeShapes Go.WideShapes Go.ChangeAt Go.Deep
open SumM

/-- A packet that came in. -/
structure IsPk (w : World) (ts td tp tq kf : Int) (ka : Option Addr) (kn kc : Nat) (zs : List Int) : Prop where
  nums : UNums ts td tp tq
  hkf : 0 ≤ kf ∧ kf ≤ 255
  hr : Row .u8 w.heap.size w ka zs
  hl : zs.length = kn
  hn : ka = none → kc = 0
  hc : kn ≤ kc ∧ kc ≤ maxLen

section
variable {H : Type} {enc : TypeId × Value → H} {w : World} {base : Nat} {spare : Nat → Bool} {held : Bool}
set_option maxRecDepth 100000 in
theorem open_packet {r : Reach} {b0 : Nat} {v : Value} {d : DataW H} {p : List MemPlace} (hsp : ∀ b, spare b = true) (hv : Value.okWide Tryd.prog w r b0 28 v) (h : DataW.Trod enc Tryd.prog w base spare held 28 v d p) :
    ∃ (ts td tp tq kf : Int) (ka : Option Addr) (kn kc : Nat) (zs : List Int), v = .agg #[.int .u32 ts, .int .u32 td, .int .u16 tp, .int .u16 tq, .int .u8 kf, .slice ka kn kc] ∧ IsPk w ts td tp tq kf ka kn kc zs := by
  have hs := Tryd.underlying28
  have hC : Tryd.prog.cellsOf 28 = 6 := by kernel_rfl
  obtain ⟨cs, rfl, hsz⟩ := okWide_struct hs hv
  obtain ⟨l⟩ := cs
  match l, hsz.trans hC with
  | [c0, c1, c2, c3, c4, c5], _ =>
    obtain ⟨fuel, hf⟩ := h
    obtain ⟨xs, n, _, hx, _, hlen, hg⟩ := DataW.trod_struct hs hf
    have z1 : Tryd.prog.cellsOf 26 = 4 := by kernel_rfl
    have z2 : Tryd.prog.cellsOf 5 = 1 := by kernel_rfl
    have z3 : Tryd.prog.cellsOf 22 = 1 := by kernel_rfl
    match xs, hlen with
    | [y0, y1, y2], _ =>
      have g0 : DataW.trod enc Tryd.prog w base spare held n 26 [c0, c1, c2, c3] = some y0 := by simpa [Value.cells, z1, z2, z3] using hg 0 _ rfl
      have g1 : DataW.trod enc Tryd.prog w base spare held n 5 [c4] = some y1 := by simpa [Value.cells, z1, z2, z3] using hg 1 _ rfl
      have g2 : DataW.trod enc Tryd.prog w base spare held n 22 [c5] = some y2 := by simpa [Value.cells, z1, z2, z3] using hg 2 _ rfl
      obtain ⟨ts, td, tp, tq, e0, hu⟩ := tup_of_trod rfl g0
      obtain ⟨kf, e1, _, w1⟩ := DataW.trod_int Tryd.underlying5 g1
      obtain ⟨ka, kn, kc, zs, e2, a1, a2, a3, a4, a5⟩ := open_bytes hsp g2
      simp only [List.cons.injEq, and_true] at e0 e1
      obtain ⟨rfl, rfl, rfl, rfl⟩ := e0
      subst e1 e2
      exact ⟨ts, td, tp, tq, kf, ka, kn, kc, zs, rfl, ⟨hu, wf_u8.1 w1, a1, a2, a3, ⟨a4, a5⟩⟩⟩
end
end Go.Proofs.YtnncmcfonkhckaaDoor
