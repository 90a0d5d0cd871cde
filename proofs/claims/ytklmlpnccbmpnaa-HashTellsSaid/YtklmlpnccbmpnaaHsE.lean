/- Package hash: a hasher's All and Made; what a hasher that is none tells. In the form that the laws ask for. -/
import Derived.Test.YtklmlpnccbmpnaaHsD
namespace Go.Proofs.Ytklmlpnccbmpnaa
open Go.RowKit Go.Shelf
open SumM

theorem hrOf_any (B k : Nat) (ts td tp tq : Int) (H : UNums ts td tp tq) (w : World) (hi : HI B k w) : Calls Try.prog 13 #[.pointer (some ⟨B, 0, none⟩), .agg #[.int .u32 ts, .int .u32 td, .int .u16 tp, .int .u16 tq]] w fun e w' => e = .returned (.int .i64 (ofU ts td tp tq)) ∧ HI B 1 w' ∧ Below B w w' ∧ w.grownBy w' (some B) :=
  (hrOf_o B k ts td tp tq H w hi).mono fun _ _ ⟨h1, h2, h3⟩ => ⟨h1, h2, h3.below, h3.grown⟩

set_option maxRecDepth 100000 in
theorem hrMade_any (B k : Nat) (w : World) (hi : HI B k w) : Calls Try.prog 12 #[.pointer (some ⟨B, 0, none⟩)] w fun e w' => e = .returned (.int .i64 (k : Int)) ∧ HI B k w' ∧ Below B w w' ∧ w.grownBy w' (some B) := by
  have hd1 := (hi.2.2 259 (by omega)).1
  have hl := run_call_load (P := Try.prog) Try.func55 (by kernel_rfl) (by kernel_rfl) (by kernel_rfl) .i32 (by kernel_rfl) hd1
  have hk : 0 ≤ (k : Int) ∧ (k : Int) ≤ 1 := by rcases hi.2.1 with rfl | rfl <;> decide
  have HI0 := Lib.hid hi
  clear hi
  go_enter Try.func12, Try.ntmps12
  go_wp2
  go_ret
  refine ⟨?_, HI0.out, Below.refl _ _, World.grownBy.refl _ _⟩
  rfl

set_option maxRecDepth 100000 in
theorem hnOf_any (ts td tp tq : Int) (w : World) : Calls Try.prog 13 #[.pointer none, .agg #[.int .u32 ts, .int .u32 td, .int .u16 tp, .int .u16 tq]] w fun e w' => e = .returned (.int .i64 0) ∧ Below w.heap.size w w' := by
  have L0 := (Below.refl w.heap.size w).alloc (Nat.le_refl _) (.cells #[.int .u32 ts, .int .u32 td, .int .u16 tp, .int .u16 tq] 26)
  go_enter Try.func13, Try.ntmps13
  go_upto_region 1 with (fail)
  generalize w.alloc (.cells #[.int .u32 ts, .int .u32 td, .int .u16 tp, .int .u16 tq] 26) = W0 at *
  go_wp2
  go_ret
  exact ⟨rfl, L0⟩
theorem hnMade_any (w : World) : Calls Try.prog 12 #[.pointer none] w fun e w' => e = .returned (.int .i64 0) ∧ Below w.heap.size w w' := by
  go_enter Try.func12, Try.ntmps12
  go_wp2
  go_ret
  exact ⟨rfl, Below.refl _ _⟩
theorem hnAll_any (v : Value) (w : World) : Calls Try.prog 11 #[.pointer none, v] w fun e w' => ∃ A c, e = .returned (.slice A 0 c) ∧ Below w.heap.size w w' := by
  go_enter Try.func11, Try.ntmps11
  go_wp2
  go_ret
  exact ⟨_, _, rfl, Below.refl _ _⟩

theorem own_asideI {w w' : World} {base B : Nat} {e : TypeId} {v : Value} {n : Nat} {xs : List Value} (h : w.ownsRow base e 1 v n xs) (hg : w.grownBy w' (some B)) (hB : B < base) : w'.ownsRow base e 1 v n xs := by
  refine h.kept hg ?_
  rcases h.2 with ⟨rfl, _⟩ | ⟨g, cap, cur, rfl, hb, _⟩
  · exact .inl rfl
  · refine .inr fun e => ?_
    simp only [Value.ownBlock, Option.some.injEq] at e
    omega
theorem Only.append {B n : Nat} {w wr w1 : World} {v : Value} {o : Obj} {e : TypeId} {xs : List Value} (h : Only B w wr) (hB : B ≤ w.heap.size) (hown : wr.ownsRow w.heap.size e 1 v n xs) (hg : (wr.alloc o).grownBy w1 v.ownBlock) : Only B w w1 := by
  have b := below_append (Below.refl w.heap.size wr) h.grown.size hown hg
  exact ⟨h.below.trans (b.mono hB), ⟨b.os.trans h.grown.os, b.tape.trans h.grown.tape, b.output.trans h.grown.output, Nat.le_trans h.grown.size b.size, fun k hk hn => (b.block k hk).trans (h.grown.block k hk hn)⟩⟩
theorem HI.grown {B k : Nat} {w w' : World} {row : Option Nat} (h : HI B k w) (hg : w.grownBy w' row) (hr : row ≠ some B) : HI B k w' := by
  have e := hg.block B h.1 (fun h => hr h.symm)
  refine ⟨Nat.lt_of_lt_of_le h.1 hg.size, h.2.1, fun off ho => ?_⟩
  have h1 := h.2.2 off ho
  rw [World.cell?, World.frozen?] at *
  simp only [e]
  exact h1

theorem wpList_make_lcI {P : Program} (w : World) {ops : Array Oper} {rest : List Oper} {o : Oper} {a : Act} {Q : Exit → Act → World → Prop}
    (hg : o.guard = none) (l c : Operand) (t : TypeId) (hop : o.op = Op.makeSlice t l c)
    (base : Nat) (e : TypeId) (i : TypeInfo) (z : Value) (h1 : P.underlying t = some (.slice e)) (h2 : P.info? e = some i) (h3 : i.zero = some z) (h4 : i.size = 1) (hz : z.cells = #[z])
    (kl kc : IntKind) (L C : Int) (m k : Nat) (hl : a.eval l = .int kl L) (hc : a.eval c = .int kc C) (hL : L = (m : Int)) (hC : C = (k : Int)) (hmk : m ≤ k) (b2 : i.bytes * k ≤ 281474976710656) (b3 : k ≤ maxLen) (b4 : base ≤ w.heap.size)
    (hK : ∀ w', w'.ownsRow base e 1 (.slice (some ⟨w.heap.size, 0, none⟩) m k) m (List.replicate m z) → w.grownBy w' none → wpList P ops Q rest (a.put o.dst (.slice (some ⟨w.heap.size, 0, none⟩) m k)) w') :
    wpList P ops Q (o :: rest) a w := by
  refine wpList_plain hg fun K hK' => ?_
  subst hL hC
  have hB2 : (i.bytes : Int) * (k : Int) ≤ 281474976710656 := by
    have : ((i.bytes * k : Nat) : Int) ≤ 281474976710656 := by omega
    rwa [Int.natCast_mul] at this
  have hrun := run_make (P := P) w t e i z h1 h2 h3 kl kc (m : Int) (k : Int) (by omega) (by omega) hB2 (by unfold maxLen at b3; omega)
  rw [Int.toNat_natCast, Int.toNat_natCast] at hrun
  unfold Oper.wp
  simp [execOp, hop, hl, hc, hrun, Result.andThen]
  exact hK' _ _ (hK _ (own_made w base b4 e z m k hmk b3 i h4 hz) (World.grownBy_alloc w _ _))

theorem Try.infoI64 : (Try.prog.info? 3).map (fun i => (i.zero, i.size, i.bytes)) = some (some (.int .i64 0), 1, 8) := by kernel_rfl
def bucketsOf (us : List Tup) : List Value := us.map fun u => Value.int .i64 (ofU u.1 u.2.1 u.2.2.1 u.2.2.2)

set_option maxRecDepth 100000 in
set_option maxHeartbeats 4000000 in
theorem hrAll_o (B k : Nat) (a : Option Addr) (len cap : Nat) (us : List Tup) (w : World) (hR : TRow B w a us) (hl : us.length = len) (hm : len ≤ 1000000) (hi : HI B k w) :
    Calls Try.prog 11 #[.pointer (some ⟨B, 0, none⟩), .slice a len cap] w fun e w' => ∃ A c, e = .returned (.slice A len c) ∧ w'.ownsRow w.heap.size 3 1 (.slice A len c) len (bucketsOf us) ∧ HI B (if len = 0 then k else 1) w' ∧ Only B w w' := by
  obtain ⟨i0, hii, hz0, hz1, hz2⟩ := info_parts Try.infoI64
  have HL := Lib.hid hl
  have HR := Lib.hid hR
  have HI0 := Lib.hid hi
  have hlt := hi.size
  obtain ⟨K1, hK1⟩ : ∃ x : Nat, (if len = 0 then k else 1) = x := ⟨_, rfl⟩
  rw [hK1]
  have HK := Lib.hid hK1
  clear hl hR hi hK1
  go_enter Try.func11, Try.ntmps11
  go_wp2_with (at_make; refine wpList_make_lcI _ rfl _ _ _ rfl w.heap.size 3 i0 (.int .i64 0) Try.underlying31 hii hz0 hz1 rfl .i64 .i64 0 len 0 len rfl rfl rfl rfl (Nat.zero_le _) (by rw [hz2]; omega) (by unfold maxLen; omega) (Nat.le_refl _) ?_; intro w1 O1 g1)
  have o1 : Only B w w1 := Only.of_below (by exact (Below.refl _ w).grown g1 (Nat.le_refl _) (fun j e => by cases e)) (Nat.le_of_lt hlt)
  have hi1 := HI0.out.grown g1 (by simp)
  clear g1
  go_loopw [5, 15] (fun v i wr => ∃ j : Nat, j ≤ len ∧ i = .int .i64 (j : Nat) ∧ wr.ownsRow w.heap.size 3 1 v j (bucketsOf (us.take j)) ∧ HI B (if j = 0 then k else 1) wr ∧ Only B w wr)
    (fun _ i _ => len - (intOf i).toNat)
  case atStart => exact ⟨0, by omega, rfl, by simpa [bucketsOf] using O1, hi1, o1⟩
  case round =>
    obtain ⟨j, hj, rfl, hown, hij, hO⟩ := hrel
    by_cases hjl : j < len
    · have hRr := HR.out.below hO.below
      obtain ⟨b, off, rfl, hb, hc⟩ := hRr.2 (by rw [HL.out]; omega)
      obtain ⟨c0, c1, c2, c3⟩ := hc j (by rw [HL.out]; exact hjl)
      have hok : Tup.ok (us[j]?.getD tup0) := HR.out.1 _ (by rw [List.getElem?_eq_getElem (by rw [HL.out]; exact hjl)]; exact List.getElem_mem _)
      have HN := Lib.hid (show bucketsOf (us.take (j + 1)) = bucketsOf (us.take j) ++ [.int .i64 (ofU (us[j]?.getD tup0).1 (us[j]?.getD tup0).2.1 (us[j]?.getD tup0).2.2.1 (us[j]?.getD tup0).2.2.2)] by
        have hg : us[j]? = some (us[j]'(by rw [HL.out]; exact hjl)) := List.getElem?_eq_getElem _
        rw [List.take_add_one, hg]
        simp only [bucketsOf, List.map_append, Option.toList_some, List.map_cons, List.map_nil, Option.getD_some])
      generalize us[j]?.getD tup0 = u at *
      obtain ⟨ts, td, tp, tq⟩ := u
      have HH := Lib.hid hok
      clear hRr hc hok
      go_upto_region 7 with (fail)
      have bU := heap_alloc_new wr (.cells #[.int .u32 ts, .int .u32 td, .int .u16 tp, .int .u16 tq] 26)
      have m1 := (Below.refl wr.heap.size wr).alloc (Nat.le_refl _) (.cells #[.int .u32 ts, .int .u32 td, .int .u16 tp, .int .u16 tq] 26)
      have hBr : B ≤ wr.heap.size := Nat.le_of_lt hij.size
      have oA := hO.trans (Only.of_below m1 hBr)
      have hiA := hij.mono m1
      have ownA := hown.alloc (.cells #[.int .u32 ts, .int .u32 td, .int .u16 tp, .int .u16 tq] 26)
      obtain ⟨q0, q1, q2, q3⟩ := tup_cells _ _ _ _ bU
      generalize wr.alloc (.cells #[.int .u32 ts, .int .u32 td, .int .u16 tp, .int .u16 tq] 26) = W0 at *
      have K := Lib.hid (hrOf_o B (if j = 0 then k else 1) ts td tp tq HH.out W0 hiA)
      have OA := Lib.hid oA
      clear bU hO hij hown m1 hiA oA
      go_wp2_with (fail)
      refine K.out.mono ?_
      rintro e w2 ⟨rfl, hi2, o2⟩
      have own2 := own_asideI ownA o2.grown hlt
      have o02 := OA.out.trans o2
      have hsz := o02.grown.size
      clear K ownA o2 q0 q1 q2 q3
      go_wp2_with (at_builtin; refine wpList_append_own _ rfl _ _ 31 rfl w.heap.size 3 i0 (.int .i64 0) 1 8 Try.underlying31 hii hz0 hz1 hz2 rfl (by decide) _ _ _ rfl (own2.alloc _) ⟨w2.heap.size, 0, none⟩ 1 1 [.int .i64 (ofU ts td tp tq)] rfl rfl (cell_one_new _ _ _) (by simp [Value.oneCell']) (by unfold maxLen; omega) (by omega) (by simp; omega) ?_; intro v' w3 own3 hgrow _)
      have o3 := o02.append (Nat.le_of_lt hlt) own2 hgrow
      have hi3 : HI B 1 w3 := (hi2.mono ((Below.refl _ _).alloc (Nat.le_refl _) _)).grown hgrow (by
        intro e
        rcases own2.2 with ⟨h, _⟩ | ⟨g, cp, cur, h, hb2, _⟩
        · rw [h] at e; cases e
        · rw [h] at e
          injection e with e
          have e2 : g = B := e
          omega)
      have own4 : w3.ownsRow w.heap.size 3 1 v' (j + 1) (bucketsOf (us.take (j + 1))) := by
        rw [HN.out]
        exact own3
      clear own3 hgrow own2 hi2 o02
      go_wp2
      go_roundw
      case rel => exact ⟨j + 1, by omega, by go_num, own4, by rw [if_neg (by omega)]; exact hi3, o3⟩
      case measure => simp [intOf]; omega
    · obtain rfl : j = len := by omega
      have ho : wr.ownsRow w.heap.size 3 1 u5 j (bucketsOf us) := by
        rw [List.take_of_length_le (by rw [HL.out]; exact Nat.le_refl _)] at hown
        exact hown
      have hij2 : HI B K1 wr := HK.out ▸ hij
      clear hown hij
      obtain ⟨a', c', rfl⟩ := own_slice ho
      go_wp2
      go_ret
      exact ⟨a', c', rfl, ho, hij2, hO⟩

theorem hrAll_any (B k : Nat) (a : Option Addr) (len cap : Nat) (us : List Tup) (w : World) (hR : TRow B w a us) (hl : us.length = len) (hm : len ≤ 1000000) (hi : HI B k w) :
    Calls Try.prog 11 #[.pointer (some ⟨B, 0, none⟩), .slice a len cap] w fun e w' => ∃ A c, e = .returned (.slice A len c) ∧ w'.ownsRow w.heap.size 3 1 (.slice A len c) len (us.map fun u => Value.int .i64 (ofU u.1 u.2.1 u.2.2.1 u.2.2.2)) ∧ HI B (if len = 0 then k else 1) w' ∧ Below B w w' ∧ w.grownBy w' (some B) :=
  (hrAll_o B k a len cap us w hR hl hm hi).mono fun _ _ ⟨A, c, h1, h2, h3, h4⟩ => ⟨A, c, h1, h2, h3, h4.below, h4.grown⟩
end Go.Proofs.Ytklmlpnccbmpnaa
