/- Package packet: the looks at a packet: what each of the closures answers, and what it lays. -/
import Derived.Test.YtnncmcfonkhckaaDoorRangeOk
import Derived.Test.YtnncmcfonkhckaaDoorIpMore
import Derived.Test.YtnncmcfonkhckaaDoorTcpParse
import Derived.Test.YtnncmcfonkhckaaDoorPkCore
namespace Go.Proofs.YtnncmcfonkhckaaDoor
open Go.RowKit Go.Shelf
open SumM

/-- What the look at the head answers: its reason; and what it lays into h. -/
def AsHeadRet (bs : List Int) (hb : Nat) (w : World) (e : Ending) (w' : World) : Prop :=
  e = .returned (.int .u8 (whyOf bs)) ∧ ∃ w1 vs, vs.length = 9 ∧ Below w.heap.size w w1 ∧ w' = w1.setCells hb 0 vs ∧
    (whyOf bs = 0 → ∃ oa on oc pa pc, vs = [.int .u8 (segAt bs 1 % 256), .int .u16 (segAt bs 3 % 65536), .int .u16 (segAt bs 4 % 65536), .int .u8 (segAt bs 5 % 256), .int .u8 (segAt bs 6 % 256), .int .u32 (segAt bs 8), .int .u32 (segAt bs 9), .slice oa on oc, .slice pa (bs.drop (hlOf bs)).length pc] ∧
      w1.ownsRow w.heap.size 5 1 (.slice pa (bs.drop (hlOf bs)).length pc) (bs.drop (hlOf bs)).length ((bs.drop (hlOf bs)).map (Value.int .u8)))

set_option maxRecDepth 100000 in
set_option maxHeartbeats 4000000 in
theorem asHead_any (Bb hb : Nat) (a : Option Addr) (len cap : Nat) (bs : List Int) (hlen : bs.length = len) (hlc : len ≤ cap) (hc : cap ≤ 9223372036854775807) (hln : len ≤ 1000000) (w : World) (hg : 0 < w.heap.size) (hW : Wid w) (hR : Row .u8 w.heap.size w a bs)
    (hB : Boxed w Bb 22 (.slice a len cap)) (hH : w.heap[hb]? = some (.cells #[.int .u8 0, .int .u16 0, .int .u16 0, .int .u8 0, .int .u8 0, .int .u32 0, .int .u32 0, .slice none 0 0, .slice none 0 0] 42 (0, 0))) :
    Calls Tryd.prog 34 #[.pointer (some ⟨Bb, 0, none⟩), .pointer (some ⟨hb, 0, none⟩)] w (AsHeadRet bs hb w) := by
  have K := Lib.hid (ipParse_any a len cap bs hlen hlc hc hln w hg hW hR)
  have HH := Lib.hid hH
  have b0 := hB.cell
  clear hlen hW hR hH
  go_enter Tryd.func34, Tryd.ntmps34
  go_wp2_with (fail)
  refine K.out.mono ?_
  rintro e w1 (⟨hy, rfl, m1⟩ | ⟨hy, v, rfl, oa, oc, pa, pc, rfl, ho, hp, m1⟩)
  · have hd := (m1.block _ (Array.getElem?_eq_some_iff.1 HH.out).1).trans HH.out
    obtain ⟨⟨q0, q1, q2, q3, q4, q5, q6, q7, q8⟩, qf⟩ := nine_cells hd
    have f0 := qf 0
    have f1 := qf 1
    have f2 := qf 2
    have f3 := qf 3
    have f4 := qf 4
    have f5 := qf 5
    have f6 := qf 6
    have f7 := qf 7
    have f8 := qf 8
    have M1 := Lib.hid m1
    have HY := Lib.hid hy
    clear hd m1 hy qf
    go_wp2
    go_ret
    exact ⟨rfl, w1, [.int .u8 0, .int .u16 0, .int .u16 0, .int .u8 0, .int .u8 0, .int .u32 0, .int .u32 0, .slice none 0 0, .slice none 0 0], rfl, M1.out, rfl, fun h => absurd h HY.out⟩
  · have hd := (m1.block _ (Array.getElem?_eq_some_iff.1 HH.out).1).trans HH.out
    have M1 := Lib.hid m1
    have HY := Lib.hid hy
    have HP := Lib.hid hp
    generalize hS1 : segAt bs 1 % 256 = s1 at *
    generalize hS3 : segAt bs 3 % 65536 = s3 at *
    generalize hS4 : segAt bs 4 % 65536 = s4 at *
    generalize hS5 : segAt bs 5 % 256 = s5 at *
    generalize hS6 : segAt bs 6 % 256 = s6 at *
    generalize hS8 : segAt bs 8 = s8 at *
    generalize hS9 : segAt bs 9 = s9 at *
    have HQ := Lib.hid (show (segAt bs 1 % 256 = s1 ∧ segAt bs 3 % 65536 = s3 ∧ segAt bs 4 % 65536 = s4 ∧ segAt bs 5 % 256 = s5 ∧ segAt bs 6 % 256 = s6 ∧ segAt bs 8 = s8 ∧ segAt bs 9 = s9) from ⟨hS1, hS3, hS4, hS5, hS6, hS8, hS9⟩)
    obtain ⟨⟨q0, q1, q2, q3, q4, q5, q6, q7, q8⟩, qf⟩ := nine_cells hd
    have f0 := qf 0
    have f1 := qf 1
    have f2 := qf 2
    have f3 := qf 3
    have f4 := qf 4
    have f5 := qf 5
    have f6 := qf 6
    have f7 := qf 7
    have f8 := qf 8
    have DT : ∃ x, bs.drop (hlOf bs) = x := ⟨_, rfl⟩
    obtain ⟨tb, hTB⟩ := DT
    rw [hTB] at HP
    rw [hTB]
    have DN : ∃ n, tb.length = n := ⟨_, rfl⟩
    obtain ⟨tn, hTN⟩ := DN
    rw [hTN] at HP
    rw [hTN]
    have DO : ∃ n, (List.drop 20 (List.take (hlOf bs) bs)).length = n := ⟨_, rfl⟩
    obtain ⟨on, hON⟩ := DO
    rw [hON]
    have HT := Lib.hid (show (bs.drop (hlOf bs) = tb ∧ tb.length = tn) from ⟨hTB, hTN⟩)
    clear hd m1 hy qf hS1 hS3 hS4 hS5 hS6 hS8 hS9 hp ho hTB hTN hON
    go_wp2
    go_ret
    refine ⟨by rw [HY.out]; rfl, w1, [.int .u8 s1, .int .u16 s3, .int .u16 s4, .int .u8 s5, .int .u8 s6, .int .u32 s8, .int .u32 s9, .slice oa on oc, .slice pa tn pc], rfl, M1.out, rfl, fun _ => ⟨oa, on, oc, pa, pc, ?_, ?_⟩⟩
    · rw [HQ.out.1, HQ.out.2.1, HQ.out.2.2.1, HQ.out.2.2.2.1, HQ.out.2.2.2.2.1, HQ.out.2.2.2.2.2.1, HQ.out.2.2.2.2.2.2, HT.out.1, HT.out.2]
    · rw [HT.out.1, HT.out.2]
      exact HP.out

set_option maxRecDepth 100000 in
theorem asProtocol_any (hb : Nat) (sv nu fl ho pr sr ds : Int) (oa : Option Addr) (on oc : Nat) (pa : Option Addr) (pn pc : Nat) (w : World) (hH : w.heap[hb]? = some (.cells #[.int .u8 sv, .int .u16 nu, .int .u16 fl, .int .u8 ho, .int .u8 pr, .int .u32 sr, .int .u32 ds, .slice oa on oc, .slice pa pn pc] 42 (0, 0))) :
    Calls Tryd.prog 36 #[.pointer (some ⟨hb, 0, none⟩)] w fun e w' => e = .returned (.int .u8 (if pr = 6 then 0 else 7)) ∧ w' = w := by
  obtain ⟨q0, q1, q2, q3, q4, q5, q6, q7, q8⟩ := head_cells _ _ _ _ _ _ _ _ _ _ _ _ _ hH
  clear hH
  go_enter Tryd.func36, Tryd.ntmps36
  by_cases h : pr = 6
  · have p1 : (pr != 6) = false := by simpa using h
    have HQ := Lib.hid h
    clear h
    go_wp2
    go_ret
    exact ⟨rfl, rfl⟩
  · have p1 : (pr != 6) = true := by simpa using h
    have HQ := Lib.hid h
    clear h
    go_wp2
    go_ret
    exact ⟨rfl, rfl⟩

/-- What the look at the segment answers, and what it lays into the packet. -/
def AsSegRet (s d : Int) (tb : List Int) (pb : Nat) (w : World) (e : Ending) (w' : World) : Prop :=
  e = .returned (.int .u8 (twhy s d tb)) ∧ ∃ (w1 : World) (t0 t1 t2 : Int), Below w.heap.size w w1 ∧ w' = w1.setCells pb 0 [.int .u32 s, .int .u32 d, .int .u16 t0, .int .u16 t1, .int .u8 t2] ∧
    (twhy s d tb = 0 → t0 = wordAt tb 0 ∧ t1 = wordAt tb 1 ∧ t2 = tb[13]?.getD 0)

set_option maxRecDepth 100000 in
set_option maxHeartbeats 4000000 in
theorem asSegment_any (hb Bp pb : Nat) (sv nu fl ho pr sr ds : Int) (oa : Option Addr) (on oc : Nat) (pa : Option Addr) (pn pc : Nat) (tb : List Int) (hs : 0 ≤ sr ∧ sr ≤ 4294967295) (hd' : 0 ≤ ds ∧ ds ≤ 4294967295) (hl : tb.length = pn) (hpc : pn ≤ pc) (hcc : pc ≤ 9223372036854775807) (w : World) (hR : Row .u8 w.heap.size w pa tb)
    (hH : w.heap[hb]? = some (.cells #[.int .u8 sv, .int .u16 nu, .int .u16 fl, .int .u8 ho, .int .u8 pr, .int .u32 sr, .int .u32 ds, .slice oa on oc, .slice pa pn pc] 42 (0, 0))) (hB : Boxed w Bp 54 (.pointer (some ⟨pb, 0, none⟩)))
    (hP : w.heap[pb]? = some (.cells #[.int .u32 0, .int .u32 0, .int .u16 0, .int .u16 0, .int .u8 0, .slice none 0 0] 28 (0, 0))) :
    Calls Tryd.prog 37 #[.pointer (some ⟨hb, 0, none⟩), .pointer (some ⟨Bp, 0, none⟩)] w (AsSegRet sr ds tb pb w) := by
  have K := Lib.hid (tcpParse_any sr ds hs hd' pa pn pc tb hl hpc hcc w hR)
  have HP := Lib.hid hP
  have HH := Lib.hid hH
  have HB := Lib.hid hB
  obtain ⟨x0, x1, x2, x3, x4, x5, x6, x7, x8⟩ := head_cells _ _ _ _ _ _ _ _ _ _ _ _ _ hH
  clear hR hP hH hB hs hd' hl hpc hcc
  go_enter Tryd.func37, Tryd.ntmps37
  go_wp2_with (fail)
  refine K.out.mono ?_
  rintro e w1 (⟨hy, rfl, m1⟩ | ⟨hy, A, c, rfl, ho, m1⟩)
  · have M1 := Lib.hid m1
    have HY := Lib.hid hy
    generalize hYY : twhy sr ds tb = y at *
    have HQ := Lib.hid hYY
    clear hYY
    have h1 := (m1.block _ (Array.getElem?_eq_some_iff.1 HH.out).1).trans HH.out
    have h2 := (m1.block _ (Array.getElem?_eq_some_iff.1 HP.out).1).trans HP.out
    have b1 : Hid (Boxed w1 Bp 54 (.pointer (some ⟨pb, 0, none⟩))) := Lib.hid ((m1.block _ HB.out.lt).trans HB.out)
    clear x0 x1 x2 x3 x4 x5 x6 x7 x8 m1 hy K
    go_upto_region 2 with (fail)
    have bT := heap_alloc_new w1 (.cells #[.int .u16 0, .int .u16 0, .int .u8 0, .int .i64 0, .slice none 0 0] 46)
    have h3 := (Below.heap_alloc w1 (.cells #[.int .u16 0, .int .u16 0, .int .u8 0, .int .i64 0, .slice none 0 0] 46) _ (Array.getElem?_eq_some_iff.1 h1).1).trans h1
    have h4 := (Below.heap_alloc w1 (.cells #[.int .u16 0, .int .u16 0, .int .u8 0, .int .i64 0, .slice none 0 0] 46) _ (Array.getElem?_eq_some_iff.1 h2).1).trans h2
    have b2 := (b1.out.alloc (.cells #[.int .u16 0, .int .u16 0, .int .u8 0, .int .i64 0, .slice none 0 0] 46)).cell
    have M2 := Lib.hid (M1.out.alloc M1.out.size (.cells #[.int .u16 0, .int .u16 0, .int .u8 0, .int .i64 0, .slice none 0 0] 46))
    have hlt := (Array.getElem?_eq_some_iff.1 h2).1
    have hq := HH.out
    have bq : w.heap[Bp]? = _ := HB.out
    generalize w1.alloc (.cells #[.int .u16 0, .int .u16 0, .int .u8 0, .int .i64 0, .slice none 0 0] 46) = W2 at *
    generalize w1.heap.size = bt at *
    obtain ⟨x0, x1, x2, x3, x4, x5, x6, x7, x8⟩ := head_cells _ _ _ _ _ _ _ _ _ _ _ _ _ h3
    obtain ⟨y0, y1, y2, y3, y4⟩ := tcp_cells _ _ _ _ _ _ _ bT
    obtain ⟨z0, z1, z2, z3, z4, z5⟩ := pk_cells _ _ _ _ _ _ _ _ h4
    have f0 := pk_frozen h4 0
    have f1 := pk_frozen h4 1
    have f2 := pk_frozen h4 2
    have f3 := pk_frozen h4 3
    have f4 := pk_frozen h4 4
    have n1 : ¬ Bp = pb := fun e => by rw [e, HP.out] at bq; cases bq
    have n2 : ¬ bt = pb := by omega
    have n3 : ¬ hb = pb := fun e => by rw [e, HP.out] at hq; cases hq
    have HD := Lib.hid h4
    clear h1 h2 h3 h4 bT b1 hq bq hlt
    go_wp2
    go_ret
    unfold AsSegRet
    rw [HQ.out]
    exact ⟨rfl, W2, 0, 0, 0, M2.out, rfl, fun h => absurd h HY.out⟩
  · have M1 := Lib.hid m1
    have HY := Lib.hid hy
    have G0 : ∃ x, wordAt tb 0 = x := ⟨_, rfl⟩
    obtain ⟨t0, ht0⟩ := G0
    have G1 : ∃ x, wordAt tb 1 = x := ⟨_, rfl⟩
    obtain ⟨t1, ht1⟩ := G1
    have G2 : ∃ x, tb[13]?.getD 0 = x := ⟨_, rfl⟩
    obtain ⟨t2, ht2⟩ := G2
    have G3 : ∃ x, thl tb = x := ⟨_, rfl⟩
    obtain ⟨t3, ht3⟩ := G3
    have G4 : ∃ x, (tb.drop (thl tb).toNat).length = x := ⟨_, rfl⟩
    obtain ⟨dn, hdn⟩ := G4
    rw [ht0, ht1, ht2, hdn, ht3]
    have HG := Lib.hid (And.intro ht0 (And.intro ht1 ht2))
    clear ht0 ht1 ht2 ht3 hdn ho
    have h1 := (m1.block _ (Array.getElem?_eq_some_iff.1 HH.out).1).trans HH.out
    have h2 := (m1.block _ (Array.getElem?_eq_some_iff.1 HP.out).1).trans HP.out
    have b1 : Hid (Boxed w1 Bp 54 (.pointer (some ⟨pb, 0, none⟩))) := Lib.hid ((m1.block _ HB.out.lt).trans HB.out)
    clear x0 x1 x2 x3 x4 x5 x6 x7 x8 m1 hy K
    go_upto_region 2 with (fail)
    have bT := heap_alloc_new w1 (.cells #[.int .u16 t0, .int .u16 t1, .int .u8 t2, .int .i64 t3, .slice A dn c] 46)
    have h3 := (Below.heap_alloc w1 (.cells #[.int .u16 t0, .int .u16 t1, .int .u8 t2, .int .i64 t3, .slice A dn c] 46) _ (Array.getElem?_eq_some_iff.1 h1).1).trans h1
    have h4 := (Below.heap_alloc w1 (.cells #[.int .u16 t0, .int .u16 t1, .int .u8 t2, .int .i64 t3, .slice A dn c] 46) _ (Array.getElem?_eq_some_iff.1 h2).1).trans h2
    have b2 := (b1.out.alloc (.cells #[.int .u16 t0, .int .u16 t1, .int .u8 t2, .int .i64 t3, .slice A dn c] 46)).cell
    have M2 := Lib.hid (M1.out.alloc M1.out.size (.cells #[.int .u16 t0, .int .u16 t1, .int .u8 t2, .int .i64 t3, .slice A dn c] 46))
    have hlt := (Array.getElem?_eq_some_iff.1 h2).1
    have hq := HH.out
    have bq : w.heap[Bp]? = _ := HB.out
    generalize w1.alloc (.cells #[.int .u16 t0, .int .u16 t1, .int .u8 t2, .int .i64 t3, .slice A dn c] 46) = W2 at *
    generalize w1.heap.size = bt at *
    obtain ⟨x0, x1, x2, x3, x4, x5, x6, x7, x8⟩ := head_cells _ _ _ _ _ _ _ _ _ _ _ _ _ h3
    obtain ⟨y0, y1, y2, y3, y4⟩ := tcp_cells _ _ _ _ _ _ _ bT
    obtain ⟨z0, z1, z2, z3, z4, z5⟩ := pk_cells _ _ _ _ _ _ _ _ h4
    have f0 := pk_frozen h4 0
    have f1 := pk_frozen h4 1
    have f2 := pk_frozen h4 2
    have f3 := pk_frozen h4 3
    have f4 := pk_frozen h4 4
    have n1 : ¬ Bp = pb := fun e => by rw [e, HP.out] at bq; cases bq
    have n2 : ¬ bt = pb := by omega
    have n3 : ¬ hb = pb := fun e => by rw [e, HP.out] at hq; cases hq
    have HD := Lib.hid h4
    clear h1 h2 h3 h4 bT b1 hq bq hlt
    go_wp2
    go_ret
    exact ⟨by rw [HY.out]; rfl, W2, t0, t1, t2, M2.out, rfl, fun _ => ⟨HG.out.1.symm, HG.out.2.1.symm, HG.out.2.2.symm⟩⟩
end Go.Proofs.YtnncmcfonkhckaaDoor
