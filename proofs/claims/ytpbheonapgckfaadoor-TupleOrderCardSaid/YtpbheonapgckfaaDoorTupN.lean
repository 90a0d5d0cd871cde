/- Package tuple: endText, Text. -/
import Derived.Test.YtpbheonapgckfaaDoorTupZ
import Derived.Lib.SmallJoins
import Derived.Lib.ItoaLen
namespace Go.Proofs.YtpbheonapgckfaaDoor
open Go.RowKit Go.Shelf
open SumM

attribute [local go_sem] Oper.semAt_some

/-- The library's table of powers of ten reads as it was laid. -/
abbrev Tab (w : World) : Prop := Lib.TabIs Tryd.prog w "internal/strconv.uint64pow10" .u64 Lib.pow10Tab
theorem gTab : Tryd.prog.globalNamed "internal/strconv.uint64pow10" = some 0 := by kernel_rfl
theorem Tab.step {w w' : World} {B : Nat} (h : Tab w) (m : Below B w w') (hB : w.heap.size ≤ B) : Tab w' := Go.Joins.tab_stays gTab h m hB

theorem decL_bytes (u : Nat) : (Lib.decDigits u).toArray = ((decL u).map fun n => UInt8.ofNat n.toNat).toArray := by
  congr 1
  induction u using Nat.strongRecOn with
  | _ u ih =>
    rw [Lib.decDigits, decL]
    by_cases h : u < 10
    · rw [dif_pos h, if_pos h]
      simp only [List.map_cons, List.map_nil]
      rw [show (48 + (u : Int)).toNat = 48 + u by omega]
    · rw [dif_neg h, if_neg h, ih (u / 10) (by omega), List.map_append]
      congr 1
      rw [decL, if_pos (by omega)]
      simp only [List.map_cons, List.map_nil]
      rw [show (48 + ((u % 10 : Nat) : Int)).toNat = 48 + u % 10 by omega]

theorem below_grow (w : World) (k : Nat) (os : Array Obj) : Below w.heap.size w (Go.Sort.grow (w.drewN k) os) :=
  ⟨rfl, rfl, rfl, by simp [Go.Sort.grow], fun i hi => by simp [Go.Sort.grow, Array.getElem?_append, hi]⟩

theorem itoa_any (n : Int) (h0 : 0 ≤ n) (h1 : n ≤ 65535) (w : World) (hT : Tab w) :
    Calls Tryd.prog 37 #[.int .i64 n] w fun e w' => e = .returned (.string (strOfNums (decL n.toNat))) ∧ Below w.heap.size w w' := by
  refine (Tryd.strconv_Itoa n (by omega) (by omega) w hT).mono ?_
  rintro e w' ⟨rfl, k, os, rfl⟩
  refine ⟨?_, below_grow w k os⟩
  obtain ⟨u, rfl⟩ : ∃ u : Nat, n = (u : Int) := ⟨n.toNat, by omega⟩
  rw [Lib.itoa_nonneg, decL_bytes]
  rfl

/-- An append, as one operation of a region that draws its order, inside a fence. -/
theorem stepIn_append {F : Fence} {n : Nat} {P : Program} (w : World) {ops : Array Oper} {o : Oper} {a : Act} {K : Act → World → Prop} {Q : Exit → Act → World → Prop} {E : Prop} (hw : Region.wanted o (yielded ops a.tmps) = true) (s x : Operand) (t : TypeId)
    (ho : o.op = .call { callee := .builtin .append, args := #[s, x], argTypes := #[t, t] })
    (base : Nat) (e : TypeId) (i : TypeInfo) (z : Value) (size bytes : Nat) (ht : P.underlying t = some (.slice e)) (hi : P.info? e = some i) (hz : i.zero = some z)
    (hsize : i.size = size) (hby : i.bytes = bytes) (hzs : z.cells.size = size) (hp : 0 < size)
    (v : Value) (k : Nat) (xs : List Value) (hs : a.eval s = v) (hown : w.ownsRow base e size v k xs)
    (ad : Addr) (m c : Nat) (news : List Value) (hx : a.eval x = .slice (some ad) m c) (hl : news.length = m * size) (hnews : ∀ j u, news[j]? = some u → w.cell? (ad.add j) = some u) (h1 : ∀ u ∈ news, u.oneCell' = true)
    (h63 : k + m ≤ maxLen) (hbytes : (k + m) * bytes ≤ 140737488355328) (hbase : base ≤ w.heap.size)
    (h : ∀ v' w', w'.ownsRow base e size v' (k + m) (xs ++ news) → w.grownBy w' v.ownBlock → K (a.put o.dst v') w') :
    if Region.wanted o (yielded ops a.tmps) = true then Oper.wpIn F n P o a w K Q else E := by
  rw [if_pos hw]
  obtain ⟨v', w', hrun, r1, r2, _⟩ := run_append_own (P := P) w base t o.type e i z size bytes ht hi hz hsize hby hzs hp v k xs hown ad m c news hl hnews h1 h63 hbytes hbase
  refine ⟨by simp [Oper.about, ho, resolve, Target.leads, Sem.run_pure], ?_⟩
  rw [Oper.semAt_plain F _ _ (by rw [ho]; intro c hc; cases hc)]
  simp [execOp, ho, resolve, invoke, builtin, hs, hx, hrun, Result.andThen]
  exact h v' w' r1 r2

/-- The numerals of some bytes, as strings. -/
def nums (l : List Int) : List ByteArray := l.map fun x => strOfNums (decL x.toNat)
theorem nums_snoc (l : List Int) (x : Int) : nums (l ++ [x]) = nums l ++ [strOfNums (decL x.toNat)] := by simp [nums]
theorem nums_length (l : List Int) : (nums l).length = l.length := by simp [nums]

theorem join_dots (b0 b1 b2 b3 : Int) : (⟨(Lib.join ((nums [b0, b1, b2, b3]).map (·.data.toList)) (⟨#[46]⟩ : ByteArray).data.toList).toArray⟩ : ByteArray) = strOfNums (dotL [b0, b1, b2, b3] 4) := by
  simp [nums, Lib.join_cons, Lib.joinTail, dotL, strOfNums]

theorem Tryd.infoStr : (Tryd.prog.info? 9).map (fun i => (i.zero, i.size, i.bytes)) = some (some (.string ⟨#[]⟩), 1, 16) := by kernel_rfl

theorem joinT_any (g c : Nat) (base : Nat) (b0 b1 b2 b3 : Int) (h0 : In 255 [b0, b1, b2, b3]) (w : World) (hown : w.ownsRow base 9 1 (.slice (some ⟨g, 0, none⟩) 4 c) 4 ((nums [b0, b1, b2, b3]).map Value.string)) :
    Calls Tryd.prog 38 #[.slice (some ⟨g, 0, none⟩) 4 c, .string ⟨#[46]⟩] w fun e w' => e = .returned (.string (strOfNums (dotL [b0, b1, b2, b3] 4))) ∧ Below w.heap.size w w' := by
  obtain ⟨hg, hc⟩ : g < w.heap.size ∧ 4 ≤ c := by
    rcases hown.2 with ⟨h, _⟩ | ⟨g', cap, cur, h, _, hb, hc, _⟩
    · cases h
    · injection h with h1 h2 h3
      injection h1 with h1
      injection h1 with h1
      subst h1 h3
      exact ⟨(Array.getElem?_eq_some_iff.1 hb).1, hc⟩
  have hl := dotL_length [b0, b1, b2, b3] h0 4
  have e := join_dots b0 b1 b2 b3
  have := Tryd.strings_Join g 0 c (nums [b0, b1, b2, b3]) ⟨#[46]⟩ w (fun j x hx => by
    have := hown.cells (g := g) rfl j (.string x) (by rw [List.getElem?_map, hx]; rfl)
    rwa [addr_add] at this) hg (by simp [nums]) (by simpa [nums] using hc) (by
      have h3 := congrArg (fun b : ByteArray => b.data.size) e
      have h4 : (strOfNums (dotL [b0, b1, b2, b3] 4)).data.size = (dotL [b0, b1, b2, b3] 4).length := by simp [strOfNums]
      simp only [List.size_toArray] at h3
      rw [h3, h4]
      omega)
  rw [e] at this
  exact this

theorem keepsFrom_below {B : Nat} {W W' : World} (h : Below W.heap.size W W') : KeepsFrom B W W' :=
  ⟨h.size, fun k _ _ ho _ => (h.block k (Array.getElem?_eq_some_iff.1 ho).1).trans ho⟩

set_option maxRecDepth 100000 in
set_option maxHeartbeats 4000000 in
theorem endText_in (n : Nat) (hn : 4 ≤ n) (a p : Int) (ha : 0 ≤ a ∧ a ≤ 4294967295) (hp : 0 ≤ p ∧ p ≤ 65535) (w : World) (hT : Tab w) :
    CallsIn Fence.wide n Tryd.prog 31 #[.int .u32 a, .int .u16 p] w fun e w' => e = .returned (.string (strOfNums (endL a p))) ∧ Below w.heap.size w w' := by
  have h1 : 1 ≤ n := by omega
  obtain ⟨i0, hi, hz0, hz1, hz2⟩ := info_parts Tryd.infoStr
  have HT := Lib.hid hT
  clear hT
  refine callsIn_of_wp_marks Tryd.func31 rfl trivial ?_ rfl
  simp only [Tryd.ntmps31, List.size_toArray, List.length_cons, List.length_nil, Nat.reduceAdd, Nat.reduceSub, Array.replicate_succ, Array.replicate_zero, List.push_toArray, List.append_toArray, List.nil_append, List.cons_append]
  gi_wp2_with (first
    | (gi_at_make; refine wpListIn_make_own _ rfl _ _ 62 rfl w.heap.size 9 i0 (.string ⟨#[]⟩) 1 Tryd.underlying62 hi hz0 hz1 .i64 .i64 _ 4 rfl rfl (by omega) (by rw [hz2]; omega) (by unfold maxLen; omega) (Nat.le_refl _) ?_; intro w1 O1 g1; have m1 := (Below.refl w.heap.size w).grown g1 (Nat.le_refl _) (fun k e => by cases e))
    | (refine ⟨trivial, ?_⟩; gi_at_call 28; refine (bytesOf_in _ _ _ _).mono ?_; rintro e w' ⟨rfl, rfl⟩))
  have z1 : w.heap.size ≤ w1.heap.size := m1.size
  have bS := ((Boxed.new w1 62 (.slice (some ⟨w.heap.size, 0, none⟩) 0 4)).alloc (.cells #[.int .u32 a] 22)).alloc (.cells #[.int .i64 4] 3)
  have bN := (Boxed.new (w1.alloc (.cells #[.slice (some ⟨w.heap.size, 0, none⟩) 0 4] 62)) 22 (.int .u32 a)).alloc (.cells #[.int .i64 4] 3)
  have bW := Boxed.new ((w1.alloc (.cells #[.slice (some ⟨w.heap.size, 0, none⟩) 0 4] 62)).alloc (.cells #[.int .u32 a] 22)) 3 (.int .i64 4)
  simp only [World.size_alloc] at bN bW
  have O3 := ((O1.alloc (.cells #[.slice (some ⟨w.heap.size, 0, none⟩) 0 4] 62)).alloc (.cells #[.int .u32 a] 22)).alloc (.cells #[.int .i64 4] 3)
  have L3 := ((m1.alloc z1 (.cells #[.slice (some ⟨w.heap.size, 0, none⟩) 0 4] 62)).alloc (by simp; omega) (.cells #[.int .u32 a] 22)).alloc (by simp; omega) (.cells #[.int .i64 4] 3)
  have z3 : (((w1.alloc (.cells #[.slice (some ⟨w.heap.size, 0, none⟩) 0 4] 62)).alloc (.cells #[.int .u32 a] 22)).alloc (.cells #[.int .i64 4] 3)).heap.size = w1.heap.size + 3 := by simp
  clear O1 g1
  generalize ((w1.alloc (.cells #[.slice (some ⟨w.heap.size, 0, none⟩) 0 4] 62)).alloc (.cells #[.int .u32 a] 22)).alloc (.cells #[.int .i64 4] 3) = V at *
  have KI := Lib.hid (fun (x : Int) (h0 : 0 ≤ x) (h1 : x ≤ 65535) (W : World) (m : Below w.heap.size w W) => itoa_any x h0 h1 W (HT.out.step m (Nat.le_refl _)))
  refine wpIn_rangeFunc_ownG rfl h1 (gf := 35) (lb := #[.pointer (some ⟨w1.heap.size + 1 + 1, 0, none⟩), .pointer (some ⟨w1.heap.size + 1, 0, none⟩)]) rfl trivial (enters_of Tryd.func35 (by kernel_rfl) rfl)
    (bytes_stops (n - 1) (by omega) (w1.heap.size + 1) (w1.heap.size + 1 + 1) w.heap.size 4 a (.inl rfl) ha V bN bW) keep_t (keep_b (by omega)) (Below.refl _ _) (fun _ => rfl)
    (fun pre W => ((∃ v', Boxed W w1.heap.size 62 v' ∧ W.ownsRow w.heap.size 9 1 v' (valsB pre).length ((nums (valsB pre)).map Value.string) ∧ True) ∧ Boxed W (w1.heap.size + 1) 22 (.int .u32 a) ∧ Boxed W (w1.heap.size + 1 + 1) 3 (.int .i64 4)) ∧ Below w.heap.size w W)
    (fun _ _ _ => False)
    (OwnFrom.and (OwnFrom.and (Own.from (holdsRow_own w.heap.size w1.heap.size 62 9 1 (fun pre => (valsB pre).length) (fun pre => (nums (valsB pre)).map Value.string) (fun _ _ => True)) _) (OwnFrom.and (Own.from (boxed_own _ _ _) _) (Own.from (boxed_own _ _ _) _))) (ownFrom_below (Nat.le_refl _) (by omega)))
    (fun _ _ _ _ _ hs _ _ => hs)
    ⟨⟨⟨_, bS, by simpa [valsB, nums] using O3, trivial⟩, bN, bW⟩, L3⟩
    (fun x => { tmps := #[.int .u32 a, .int .u16 p, undef, undef, .string ⟨#[]⟩, .pointer (some ⟨w1.heap.size, 0, none⟩), .int .u8 x.1, .slice (some ⟨w.heap.size, 0, none⟩) 0 4, .int .u32 a, .func (.func 35) #[] #[.pointer (some ⟨w1.heap.size + 1 + 1, 0, none⟩), .pointer (some ⟨w1.heap.size + 1, 0, none⟩)], .int .u8 x.1, undef, undef, undef, undef, undef, undef, undef, undef, undef, undef, undef, undef, undef], defers := [] }) ?assign ?body ?done ?stop
  case assign =>
    intro l x W K hK
    gi_wp2
    exact hK
  case stop =>
    rintro D c pre W _ _ h _
    exact h.elim
  case body =>
    rintro l pre x W ⟨⟨⟨v', hv, hrow, _⟩, hbn, hbw⟩, hB'⟩ hlt
    have hc := hv.cell
    have hpl : (valsB pre).length < 4 := by rw [valsB_length]; exact hlt
    have hx := x.2
    have hw : IntKind.i64.wrap x.1 = x.1 := IntWalk.i64_in _ (by omega)
    gi_wp2_with fail
    refine wpIn_region_any (by kernel_rfl) ?_
    change wpAnyIn _ _ _ _ _ _ _ _ _ (World.drew _)
    have KX := Lib.hid (fun W' (m : Below w.heap.size w W') => KI.out x.1 hx.1 (by omega) W' m)
    iterate 7
      all_goals (first
        | (refine wpAnyIn_ready (rs := [0, 1]) (by decide +kernel) (by simp) ?_; refine AllReadyIn.cons rfl (fun K hK => ?_) (AllReadyIn.cons rfl (fun K hK => ?_) AllReadyIn.nil))
        | (refine wpAnyIn_ready (rs := [0, 2]) (by decide +kernel) (by simp) ?_; refine AllReadyIn.cons rfl (fun K hK => ?_) (AllReadyIn.cons rfl (fun K hK => ?_) AllReadyIn.nil))
        | (refine wpAnyIn_ready (rs := [0, 3]) (by decide +kernel) (by simp) ?_; refine AllReadyIn.cons rfl (fun K hK => ?_) (AllReadyIn.cons rfl (fun K hK => ?_) AllReadyIn.nil))
        | (refine wpAnyIn_ready (rs := [0, 4]) (by decide +kernel) (by simp) ?_; refine AllReadyIn.cons rfl (fun K hK => ?_) (AllReadyIn.cons rfl (fun K hK => ?_) AllReadyIn.nil))
        | (refine wpAnyIn_ready (rs := [0]) (by decide +kernel) (by simp) ?_; refine AllReadyIn.cons rfl (fun K hK => ?_) AllReadyIn.nil)
        | (refine wpAnyIn_ready (rs := [1]) (by decide +kernel) (by simp) ?_; refine AllReadyIn.cons rfl (fun K hK => ?_) AllReadyIn.nil)
        | (refine wpAnyIn_ready (rs := [2]) (by decide +kernel) (by simp) ?_; refine AllReadyIn.cons rfl (fun K hK => ?_) AllReadyIn.nil)
        | (refine wpAnyIn_ready (rs := [3]) (by decide +kernel) (by simp) ?_; refine AllReadyIn.cons rfl (fun K hK => ?_) AllReadyIn.nil)
        | (refine wpAnyIn_ready (rs := [4]) (by decide +kernel) (by simp) ?_; refine AllReadyIn.cons rfl (fun K hK => ?_) AllReadyIn.nil)
        | (refine wpAnyIn_ready (rs := [5]) (by decide +kernel) (by simp) ?_; refine AllReadyIn.cons rfl (fun K hK => ?_) AllReadyIn.nil)
        | (refine wpAnyIn_ready (rs := [6]) (by decide +kernel) (by simp) ?_; refine AllReadyIn.cons rfl (fun K hK => ?_) AllReadyIn.nil))
      all_goals (first
        | (refine stepIn_append _ (by rfl) (.tmp 11) (.tmp 15) 62 (by rfl) w.heap.size 9 i0 (.string ⟨#[]⟩) 1 16 Tryd.underlying62 hi hz0 hz1 hz2 rfl (by decide) v' _ _ (by rfl) (P3.alloc _) ⟨w3.heap.size, 0, none⟩ 1 1 [.string S] (by rfl) rfl (cell_one_new _ _ _) (by simp [Value.oneCell']) (by unfold maxLen; omega) (by omega) (by have := n3.size; simp; omega) ?_; intro v2 w4 O4 g4; obtain ⟨g', cap', rfl⟩ := ownsRow_succ O4; obtain ⟨hv1, hv2, hr2, hk2, hb2⟩ := v3.appended (by decide) P3 n3.size z1 O4 g4; have hn2 : Boxed w4 (w1.heap.size + 1) 22 (.int .u32 a) := (bn3.alloc _).kept g4 (bn3.not_row (by decide) P3); have hw2 : Boxed w4 (w1.heap.size + 1 + 1) 3 (.int .i64 4) := (bw3.alloc _).kept g4 (bw3.not_row (by decide) P3); have hc1 := hv1.cell; have hf1 := hv1.frozen; refine hK _ _ ?_; clear hK K)
        | (go_simp; refine ⟨trivial, (fun _ => by omega), ?_⟩; refine (CallsIn.inRound l (callsIn_wide.2 (KX.out W.drew hB'.drew))).mono ?_; rintro e w3 ⟨rfl, k3⟩; have n3 := hB'.drew.trans (k3.mono hB'.size); have v3 : Boxed w3 w1.heap.size 62 v' := (k3.block _ hv.lt).trans hv; have bn3 : Boxed w3 (w1.heap.size + 1) 22 (.int .u32 a) := (k3.block _ hbn.lt).trans hbn; have bw3 : Boxed w3 (w1.heap.size + 1 + 1) 3 (.int .i64 4) := (k3.block _ hbw.lt).trans hbw; have P3 := own_below (show W.drew.ownsRow w.heap.size 9 1 v' _ _ from hrow) k3; have c3 := v3.cell; obtain ⟨S, hS⟩ : ∃ S, strOfNums (decL x.1.toNat) = S := ⟨_, rfl⟩; have HS := Lib.hid hS; rw [hS]; clear hS; have c3a := (v3.alloc (.cells #[.string S] 9)).cell; refine hK _ _ ?_; clear hK K)
        | (go_simp; refine hK _ _ ?_; clear hK K))
    all_goals
      refine wpAnyIn_done (by kernel_rfl) ?_ _
      have hn3 := hn2.other (B' := w1.heap.size) (by omega) (.slice (some ⟨g', 0, none⟩) ((valsB pre).length + 1) cap')
      have hw3 := hw2.other (B' := w1.heap.size) (by omega) (.slice (some ⟨g', 0, none⟩) ((valsB pre).length + 1) cap')
      have hWW := ((below_drew k3).mono hB'.size).trans hb2
      have hr3 : (w4.setCell ⟨w1.heap.size, 0, none⟩ (.slice (some ⟨g', 0, none⟩) ((valsB pre).length + 1) cap')).ownsRow w.heap.size 9 1 (.slice (some ⟨g', 0, none⟩) ((valsB pre).length + 1) cap') (valsB (pre ++ [x])).length ((nums (valsB (pre ++ [x]))).map Value.string) := by
        rw [valsB_snoc, nums_snoc, HS.out]
        simpa using hr2
      refine ⟨(keepsFrom_below (below_drew k3)).trans (hk2.from _), ⟨hWW, fun b hb o ho _ => ?_⟩, ⟨⟨_, hv2, hr3, trivial⟩, hn3, hw3⟩, hB'.trans hWW⟩
      simp at hb
      rcases hb with rfl | rfl
      · rw [show W.heap[w1.heap.size + 1]? = _ from hbn] at ho; rw [← ho]; exact hn3
      · rw [show W.heap[w1.heap.size + 1 + 1]? = _ from hbw] at ho; rw [← ho]; exact hw3
  case done =>
    rintro D ys W hD hys ⟨⟨⟨v', hv, hrow, _⟩, _⟩, hB'⟩ hK
    have hc := hv.cell
    rw [hys, valsB_be, be4] at hrow
    replace hrow : W.ownsRow w.heap.size 9 1 v' 4 ((nums [a / 16777216 % 256, a / 65536 % 256, a / 256 % 256, a % 256]).map Value.string) := hrow
    obtain ⟨g, c, rfl, hg, hgl⟩ := hrow.form (by omega)
    have KJ := Lib.hid (joinT_any g c w.heap.size _ _ _ _ (r4in4 a) W hrow)
    have HZ := r4in4 a
    have hlen := dotL_length [a / 16777216 % 256, a / 65536 % 256, a / 256 % 256, a % 256] HZ 4
    have hdl := decL_length p.toNat
    have HE := Lib.hid (show strOfNums (endL a p) = strOfNums (dotL [a / 16777216 % 256, a / 65536 % 256, a / 256 % 256, a % 256] 4) ++ strOfNums [58] ++ strOfNums (decL p.toNat) by rw [endL, str_append, str_append])
    have f1 : (strOfNums (dotL [a / 16777216 % 256, a / 65536 % 256, a / 256 % 256, a % 256] 4)).size ≤ 2000 := by rw [strOfNums_size]; omega
    have f2 : (strOfNums (decL p.toNat)).size ≤ 70000 := by rw [strOfNums_size]; omega
    have KP := Lib.hid (fun W' (m : Below w.heap.size w W') => KI.out p hp.1 hp.2 W' m)
    generalize strOfNums (dotL [a / 16777216 % 256, a / 65536 % 256, a / 256 % 256, a % 256] 4) = S at *
    generalize strOfNums (decL p.toNat) = T at *
    have g2 : ¬ 9223372036854775807 < S.size + 1 := by omega
    have g3 : ¬ 9223372036854775807 < S.size + 1 + T.size := by omega
    have ew : IntKind.i64.wrap p = p := IntWalk.i64_in _ (by omega)
    have HK := Lib.hid hK
    have HB := Lib.hid hB'
    have hDs : D < W.heap.size := (Array.getElem?_eq_some_iff.1 hK).1
    have HD := Lib.hid hDs
    clear hys hrow hlen hdl HZ f1 f2 hK hB' hDs
    gi_wp2_with (first
      | (refine ⟨trivial, ?_⟩; gi_at_call 38; refine (callsIn_wide.2 KJ.out).mono ?_; rintro e w5 ⟨rfl, m5⟩; have n5 := HB.out.trans (m5.mono HB.out.size))
      | (refine ⟨trivial, ?_⟩; gi_at_call 37; refine (callsIn_wide.2 (KP.out w5 n5)).mono ?_; rintro e w6 ⟨rfl, m6⟩; have n6 := n5.trans (m6.mono n5.size)))
    have hK6 : w6.heap[D]? = some (.deferred (some [])) := (m6.block D (Nat.lt_of_lt_of_le HD.out m5.size)).trans ((m5.block D HD.out).trans HK.out)
    refine ⟨by simp, .inl ⟨_, _, rfl, run_takeDeferred hK6, ?_⟩⟩
    exact ⟨_, results_tmp rfl _ _ _, by rw [HE.out]; rfl, n6.trans (belowK_b (w := w) (Nat.le_refl _) w6 D _ (.deferred none) (by omega) hK6 rfl rfl)⟩
end Go.Proofs.YtpbheonapgckfaaDoor
