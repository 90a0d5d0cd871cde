/- General words: slices of bytes of the call's own, stores, boxes, bytes as a string, bytes.Clone and bytes.Equal. No package of the project is named, but type numbers and package bytes. -/
import Derived.Test.YtpbheonapgckfaaDoorOpen
import Derived.Test.YtpbheonapgckfaaDoorIpM
import Derived.Test.YtpbheonapgckfaaDoorMath2
import Derived.Test.YtpbheonapgckfaaDoorWords
import Derived.Lib.SliceRun
import Derived.Laws.BytesArg
import Derived.Laws.BitsAllLaws
import Derived.Laws.ResultCell
import Derived.Deep.RegionLaw
import Derived.Deep.RegionHeld3
import Derived.ControlIn
import Derived.OwnWalkIn
namespace Go.Proofs.YtpbheonapgckfaaDoor
open Go.RowKit Go.Shelf
open SumM

theorem ret_bool {a b : Bool} (h : a = b) : Ending.returned (.bool a) = .returned (.bool b) := by rw [h]

theorem ret_int {k : IntKind} {a b : Int} (h : a = b) : Ending.returned (.int k a) = .returned (.int k b) := by rw [h]

/-- The call hands back a slice of bytes in memory of its own. -/
def OwnRet (zs : List Int) (w : World) (e : Ending) (w' : World) : Prop :=
  ∃ a c, e = .returned (.slice a zs.length c) ∧ w'.ownsRow w.heap.size 5 1 (.slice a zs.length c) zs.length (zs.map (Value.int .u8)) ∧ Below w.heap.size w w'

theorem own_nil {w : World} {base : Nat} {e : TypeId} {a : Option Addr} {n c : Nat} {xs : List Value} (h : w.ownsRow base e 1 (.slice a n c) n xs) : a = none → c = 0 := by
  rintro rfl
  obtain ⟨_, ⟨h1, _⟩ | ⟨g, cap, cur, h1, _⟩⟩ := h
  · injection h1
  · cases h1

theorem bcell {W w1 : World} (hb : Below W.heap.size W w1) : (∀ b o, b < W.heap.size → w1.cell? ⟨b, o, none⟩ = W.cell? ⟨b, o, none⟩) ∧ (∀ b o, b < W.heap.size → w1.frozen? ⟨b, o, none⟩ = W.frozen? ⟨b, o, none⟩) :=
  ⟨fun b o h => hb.cell (p := ⟨b, o, none⟩) h, fun b o h => hb.frozen (p := ⟨b, o, none⟩) h⟩

theorem below_alloc1 {w w1 : World} {o : Obj} (h : Below (w.alloc o).heap.size (w.alloc o) w1) : Below w.heap.size w w1 :=
  ((Below.refl w.heap.size w).alloc (Nat.le_refl _) o).trans (h.mono (by simp))

theorem Tryd.infoU8 : (Tryd.prog.info? 5).map (fun i => (i.zero, i.size, i.bytes)) = some (some (.int .u8 0), 1, 1) := by kernel_rfl

theorem below_drew {W w1 : World} (m : Below W.drew.heap.size W.drew w1) : Below W.heap.size W w1 := ⟨m.os, m.tape, m.output, m.size, m.block⟩

theorem below_drew_alloc {W w1 : World} {o : Obj} (m : Below (W.drew.alloc o).heap.size (W.drew.alloc o) w1) : Below W.heap.size W w1 := below_drew (below_alloc1 m)

theorem cell_al {W w1 : World} (LL : Below W.heap.size W w1) {b j : Nat} {v : Value} (hlt : b < W.heap.size) (h : w1.cell? ⟨b, j, none⟩ = some v) {o : Obj} : (w1.alloc o).cell? ⟨b, j, none⟩ = some v :=
  (((Below.refl w1.heap.size w1).alloc (Nat.le_refl _) o).cell (p := ⟨b, j, none⟩) (Nat.lt_of_lt_of_le hlt LL.size)).trans h

theorem new_keep' (W w1 : World) (o : Obj) (m : Below (W.alloc o).drew.heap.size (W.alloc o).drew w1) : w1.heap[W.heap.size]? = some o :=
  (m.block W.heap.size (by simp)).trans (heap_alloc_new W o)

theorem new_keep (W w1 : World) (o : Obj) (m : Below (W.drew.alloc o).heap.size (W.drew.alloc o) w1) : w1.heap[W.heap.size]? = some o :=
  (m.block W.heap.size (by simp)).trans (heap_alloc_new W.drew o)

set_option maxRecDepth 100000 in
theorem Row.str {B : Nat} {w : World} {a : Option Addr} {zs : List Int} (h : Row .u8 B w a zs) (n c : Nat) (hl : zs.length = n) :
    (convert 26 9 (.slice a n c)).run Tryd.prog w = .ok (.string (strOfNums zs)) w := by
  rcases a with _ | a
  · have : zs = [] := by
      rcases Nat.eq_zero_or_pos zs.length with h0 | h0
      · exact List.eq_nil_of_length_eq_zero h0
      · obtain ⟨b, off, h2, _⟩ := h.2 h0
        cases h2
    subst this
    exact run_convert_bytes_nil w _ 5 Tryd.underlying26 Tryd.underlying5 n c _ Tryd.underlying9
  · rcases Nat.eq_zero_or_pos zs.length with h0 | h0
    · obtain rfl : zs = [] := List.eq_nil_of_length_eq_zero h0
      subst hl
      rw [run_convert_bytes_string w _ _ 5 _ _ c Tryd.underlying26 Tryd.underlying5 Tryd.underlying9]
      exact run_bytesToString w a 0 c [] (run_loadCells_list (P := Tryd.prog) w a [] (fun j v hj => by simp at hj))
    · obtain ⟨b, off, h2, _, hc⟩ := h.2 h0
      injection h2 with h2
      subst h2
      exact run_convert_bytes_arg w _ 5 Tryd.underlying26 Tryd.underlying5 b off n c zs hl (fun i hi => by rw [hc i (by omega)]; simp [List.getD]) _ Tryd.underlying9

/-- Whether two lists are the same. -/
def eqB (a b : List Int) : Bool := decide (a = b)

theorem eqB_true {a b : List Int} : eqB a b = true ↔ a = b := by simp [eqB]

theorem str_eq {a b : List Int} (ha : In 255 a) (hb : In 255 b) : ((strOfNums a).toList == (strOfNums b).toList) = eqB a b := by
  have e : ∀ l : List Int, (strOfNums l).toList = l.map fun n => UInt8.ofNat n.toNat := fun l => by rw [ByteArray.toList_eq]; rfl
  rw [e, e, Bool.eq_iff_iff, beq_iff_eq, eqB_true]
  refine ⟨fun h => ?_, fun h => by rw [h]⟩
  have hlen : a.length = b.length := by simpa using congrArg List.length h
  apply List.ext_getElem hlen
  intro i h1 h2
  have := congrArg (fun l : List UInt8 => l[i]?) h
  simp [h1, h2] at this
  have x := ha _ (List.getElem_mem h1)
  have y := hb _ (List.getElem_mem h2)
  have t := congrArg UInt8.toNat this
  simp at t
  omega

theorem row_in {B : Nat} {w : World} {a : Option Addr} {zs : List Int} (h : Row .u8 B w a zs) : In 255 zs := fun x hx => wf_u8.1 (h.1 x hx)

theorem size_setCells' (b : Nat) (t : TypeId) : ∀ (vs : List Value) (o : Nat) (w : World) (cur : Array Value), w.heap[b]? = some (.cells cur t (0, 0)) → ∃ cur' : Array Value, (w.setCells b o vs).heap[b]? = some (.cells cur' t (0, 0)) ∧ cur'.size = cur.size
  | [], _, _, cur, h => ⟨cur, h, rfl⟩
  | v :: r, o, w, cur, h => by
    obtain ⟨c, h1, h2⟩ := size_setCells' b t r (o + 1) _ _ (heap_setCell_same w b o _ t v h)
    exact ⟨c, h1, h2.trans (Array.size_setIfInBounds ..)⟩

/-- A block whose cells are all stored. -/
theorem full_setCells {w : World} {b : Nat} {cur : Array Value} {t : TypeId} (h : w.heap[b]? = some (.cells cur t (0, 0))) (vs : List Value) (hl : vs.length = cur.size) : (w.setCells b 0 vs).heap[b]? = some (.cells vs.toArray t (0, 0)) := by
  obtain ⟨c, h1, h2⟩ := size_setCells' b t vs 0 w cur h
  obtain ⟨c', h3, h4⟩ := row_setCells h vs (by omega)
  rw [h1] at h3
  injection h3 with h3
  injection h3 with h3
  subst h3
  rw [h1]
  have : c = vs.toArray := by
    apply Array.ext
    · rw [h2, ← hl, List.size_toArray]
    · intro i hi hi'
      have := h4 i (by simpa using hi')
      rw [cell_of_row _ _ _ _ _ _ h1, Array.getElem?_eq_getElem hi] at this
      have h5 := Option.some.inj this
      simpa using h5
  rw [this]

theorem own_apart {w : World} {base : Nat} {e : TypeId} {v : Value} {n : Nat} {xs : List Value} (h : w.ownsRow base e 1 v n xs) {b : Nat} {cur : Array Value} {t : TypeId} {r : Nat × Nat} (hb : w.heap[b]? = some (.cells cur t r)) (ht : t ≠ e) (j : Nat) (u : Value) : (w.setCell ⟨b, j, none⟩ u).ownsRow base e 1 v n xs := by
  refine ⟨h.1, ?_⟩
  rcases h.2 with h' | ⟨g, cap, cur', h1, h2, h3, h4⟩
  · exact .inl h'
  · refine .inr ⟨g, cap, cur', h1, h2, (Below.heap_setCell w _ u g ?_).trans h3, h4⟩
    intro hgb
    rw [hgb] at h3
    rw [show w.heap[b]? = _ from hb] at h3
    injection h3 with h3
    injection h3 with _ e2 _
    exact ht e2

theorem own_apartN {base : Nat} {e : TypeId} {v : Value} {n : Nat} {xs : List Value} {b : Nat} {t : TypeId} (ht : t ≠ e) : ∀ (vs : List Value) (o : Nat) (w : World) (cur : Array Value), w.ownsRow base e 1 v n xs → w.heap[b]? = some (.cells cur t (0, 0)) → (w.setCells b o vs).ownsRow base e 1 v n xs
  | [], _, _, _, h, _ => h
  | u :: r, o, w, cur, h, hb => own_apartN ht r (o + 1) _ _ (own_apart h hb ht o u) (heap_setCell_same w b o cur t u hb)

theorem wrap_u8 (x : Int) : IntKind.u8.wrap x = x % 256 := by simp [IntKind.wrap, IntKind.bits, IntKind.signed]

theorem wrap_u16 (x : Int) : IntKind.u16.wrap x = x % 65536 := by simp [IntKind.wrap, IntKind.bits, IntKind.signed]

theorem own_ne {w : World} {base : Nat} {e : TypeId} {v : Value} {n : Nat} {xs : List Value} (h : w.ownsRow base e 1 v n xs) {b : Nat} (hb : b < base) : some b ≠ v.ownBlock := fun e => by
  have := (h.lt b e.symm).1
  omega

theorem own_base {w : World} {base b' : Nat} {e : TypeId} {v : Value} {n : Nat} {xs : List Value} (h : w.ownsRow base e 1 v n xs) (hb : b' ≤ base) : w.ownsRow b' e 1 v n xs := by
  refine ⟨h.1, ?_⟩
  rcases h.2 with h' | ⟨g, cap, cur, h1, h2, h3⟩
  · exact .inl h'
  · exact .inr ⟨g, cap, cur, h1, by omega, h3⟩

theorem own_others {w w' : World} {base : Nat} {e : TypeId} {v : Value} {n : Nat} {xs : List Value} (h : w.ownsRow base e 1 v n xs) (hg : w.grownBy w' v.ownBlock) : KeepsOthers w w' :=
  KeepsOthers.of_grownBy hg fun j x hj hx => by
    rcases h.2 with ⟨rfl, _⟩ | ⟨g, cap, cur', rfl, _, hb, _⟩
    · cases hj
    · simp only [Value.ownBlock, Option.some.injEq] at hj
      subst hj
      rw [hb] at hx
      injection hx with hx
      rw [← hx]
      rfl

theorem in_take {m : Int} {l : List Int} (h : In m l) (i : Nat) : In m (l.take i) := fun x hx => h x (List.mem_of_mem_take hx)

theorem in_drop {m : Int} {l : List Int} (h : In m l) (i : Nat) : In m (l.drop i) := fun x hx => h x (List.mem_of_mem_drop hx)

theorem Row.dropIf {k : IntKind} {B : Nat} {w : World} {b off : Nat} {zs : List Int} (h : Row k B w (some ⟨b, off, none⟩) zs) (i : Nat) {c : Prop} [Decidable c] (hc : c → zs.drop i = []) : Row k B w (if c then some ⟨b, off, none⟩ else some ⟨b, off + i, none⟩) (zs.drop i) := by
  split
  · rename_i h'
    rw [hc h']
    exact Row.nil _ _ _ _
  · exact h.drop i

theorem rangeAt_below {W W' : World} {B b o : Nat} {cs : List Value} (h : W.rangeAt b o cs) (hb : Below B W W') (hlt : b < B) : W'.rangeAt b o cs := fun j v hv => (hb.cell (p := ⟨b, o + j, none⟩) hlt).trans (h j v hv)

theorem others_setCells (b : Nat) : ∀ (vs : List Value) (o : Nat) (w : World), KeepsOthers w (w.setCells b o vs)
  | [], _, _ => KeepsOthers.refl _
  | v :: r, o, w => (KeepsOthers.setCell w ⟨b, o, none⟩ v).trans (others_setCells b r (o + 1) _)

theorem rangeAt_row {w : World} {b : Nat} {vs : List Value} {t : TypeId} {fr : Nat × Nat} (h : w.heap[b]? = some (.cells vs.toArray t fr)) : w.rangeAt b 0 vs := fun j v hv => by
  rw [cell_of_row _ _ _ _ _ _ h, Nat.zero_add]
  simpa using hv

theorem i64_and255 (n : Int) : bits .and .i64 n 255 = n % 256 := by
  have h : (BitVec.ofInt 64 255).toNat = 2 ^ 8 - 1 := by decide
  have key : (BitVec.ofInt 64 n &&& BitVec.ofInt 64 255).toNat = (n % ((2 ^ 64 : Nat) : Int)).toNat % 2 ^ 8 := by
    rw [BitVec.toNat_and, BitVec.toNat_ofInt, h, Nat.and_two_pow_sub_one_eq_mod]
  show IntKind.i64.wrap ((BitVec.ofInt 64 n &&& BitVec.ofInt 64 255).toNat : Nat) = n % 256
  rw [key, IntKind.wrap_i64]
  omega

theorem u32_and65535 (n : Int) (h0 : 0 ≤ n) (h1 : n ≤ 4294967295) : bits .and .u32 n 65535 = n % 65536 := by
  rw [u32_and n 65535 h0 (by omega) (by omega) (by omega)]
  have e : (n.toNat &&& (65535 : Int).toNat : Nat) = n.toNat % 65536 := Nat.and_two_pow_sub_one_eq_mod n.toNat 16
  rw [e]
  omega

theorem own_cap {w : World} {base : Nat} {e : TypeId} {a : Option Addr} {n c : Nat} {xs : List Value} (h : w.ownsRow base e 1 (.slice a n c) n xs) : n ≤ c ∧ c ≤ 9223372036854775807 := by
  rcases h.2 with ⟨h1, h2⟩ | ⟨g, cap, cur, h1, _, _, h3, h4, _⟩
  · injection h1 with h1 h2 h3
    omega
  · injection h1 with h1 h2 h5
    unfold maxLen at h4
    omega

theorem in_wf8 {l : List Int} (h : In 255 l) : ∀ n ∈ l, (Lit.int .u8 n).wf = true := fun n hn => wf_u8.2 (h n hn)

theorem own_addr {w : World} {base : Nat} {e : TypeId} {a : Option Addr} {n c : Nat} {xs : List Value} (h : w.ownsRow base e 1 (.slice a n c) n xs) (hn : 0 < n) : ∃ g, a = some ⟨g, 0, none⟩ ∧ base ≤ g ∧ g < w.heap.size := by
  obtain ⟨g, cap, hv, hb, hlt⟩ := h.form hn
  injection hv with h1
  exact ⟨g, h1, hb, hlt⟩

theorem own_builtAt {w : World} {m : Nat} (h : w.heap.size = m) (base : Nat) (hb : base ≤ m) (e : TypeId) (xs : List Value) (n : Nat) (hn : xs.length = n) (hl : n ≤ maxLen) : (w.alloc (.cells xs.toArray e)).ownsRow base e 1 (.slice (some ⟨m, 0, none⟩) n n) n xs := by
  subst h
  exact own_built w base hb e xs n hn hl

/-- A block that lay ahead of an append to a slice that was just built. -/
theorem grow_block {W w3 : World} {b m : Nat} {x o : Obj} (h : W.heap[b]? = some x) (hW : W.heap.size = m) (hlt : b < m) (hg : (W.alloc o).grownBy w3 (Value.slice (some ⟨m, 0, none⟩) 0 0).ownBlock) : w3.heap[b]? = some x :=
  (hg.block b (by simp; omega) (by simp [Value.ownBlock]; omega)).trans ((Below.heap_alloc W o b (by omega)).trans h)

theorem grow_own {W w3 : World} {base m n : Nat} {e : TypeId} {v : Value} {xs : List Value} {o : Obj} (h : W.ownsRow base e 1 v n xs) (hW : W.heap.size = m) (hg : (W.alloc o).grownBy w3 (Value.slice (some ⟨m, 0, none⟩) 0 0).ownBlock) : w3.ownsRow base e 1 v n xs := by
  refine (h.alloc o).kept hg ?_
  rcases hv : v.ownBlock with _ | x
  · exact .inl rfl
  · have := (h.lt x hv).2
    exact .inr (by simp [Value.ownBlock]; omega)

theorem in_two {a b : Int} (ha : 0 ≤ a ∧ a ≤ 255) (hb : 0 ≤ b ∧ b ≤ 255) : ∀ n ∈ [a, b], (Lit.int .u8 n).wf = true := in_wf8 (by
  intro x hx
  simp only [List.mem_cons, List.not_mem_nil, or_false] at hx
  omega)

theorem one_u8 (l : List Int) : ∀ u ∈ l.map (Value.int .u8), u.oneCell' = true := by
  intro u hu
  obtain ⟨n, _, rfl⟩ := List.mem_map.1 hu
  rfl

theorem own_grown {W W' : World} {base b2 g n c m c2 : Nat} {e : TypeId} {xs ys : List Value} {ad : Nat} (h : W.ownsRow b2 e 1 (.slice (some ⟨ad, 0, none⟩) m c2) m ys) (_ho : W.ownsRow base e 1 (.slice (some ⟨g, 0, none⟩) n c) n xs) (hg : W.grownBy W' (Value.slice (some ⟨g, 0, none⟩) n c).ownBlock) (hlt : g < b2) : W'.ownsRow b2 e 1 (.slice (some ⟨ad, 0, none⟩) m c2) m ys := by
  refine h.kept hg (.inr ?_)
  have := (h.lt ad rfl).1
  simp [Value.ownBlock]
  omega

/-- An append in a region that draws its order, of a slice that is there, empty or not. -/
theorem step_append_some {P : Program} (w : World) {ops : Array Oper} {o : Oper} {a : Act} {K : Act → World → Prop} {Q : Exit → Act → World → Prop} {E : Prop} (hw : Region.wanted o (yielded ops a.tmps) = true) (s x : Operand) (t : TypeId)
    (ho : o.op = .call { callee := .builtin .append, args := #[s, x], argTypes := #[t, t] })
    (base : Nat) (e : TypeId) (i : TypeInfo) (z : Value) (bytes : Nat) (ht : P.underlying t = some (.slice e)) (hi : P.info? e = some i) (hz : i.zero = some z)
    (hsize : i.size = 1) (hby : i.bytes = bytes) (hzs : z.cells.size = 1)
    (v : Value) (n : Nat) (xs : List Value) (hs : a.eval s = v) (hown : w.ownsRow base e 1 v n xs)
    (ad : Addr) (m c : Nat) (news : List Value) (hx : a.eval x = .slice (some ad) m c) (hl : news.length = m) (hnews : ∀ j u, news[j]? = some u → w.cell? (ad.add j) = some u) (h1 : ∀ u ∈ news, u.oneCell' = true)
    (h63 : n + m ≤ maxLen) (hbytes : (n + m) * bytes ≤ 140737488355328) (hbase : base ≤ w.heap.size)
    (h : ∀ v' w', w'.ownsRow base e 1 v' (n + m) (xs ++ news) → w.grownBy w' v.ownBlock → K (a.put o.dst v') w') :
    if Region.wanted o (yielded ops a.tmps) = true then Oper.wp P o a w K Q else E := by
  rw [if_pos hw]
  exact wp_append_own w s x t ho base e i z 1 bytes ht hi hz hsize hby hzs (by decide) v n xs hs hown ad m c news hx (by omega) hnews h1 h63 hbytes hbase fun v' w' h2 h3 _ => h v' w' h2 h3

theorem row_cells {k : IntKind} {B : Nat} {w : World} {ad : Addr} {zs : List Int} (h : Row k B w (some ad) zs) : ∀ j u, (zs.map (Value.int k))[j]? = some u → w.cell? (ad.add j) = some u := by
  intro j u hu
  have hj : j < zs.length := by
    rcases Nat.lt_or_ge j zs.length with hj | hj
    · exact hj
    · rw [List.getElem?_eq_none (by simpa using hj)] at hu
      cases hu
  obtain ⟨b, off, hA, _, hc⟩ := h.2 (by omega)
  injection hA with hA
  subst hA
  rw [addr_add, hc j hj]
  simpa [hj] using hu

/-- The slice v holds n bytes of the call's own. -/
def Bytes (W : World) (base : Nat) (v : Value) (n : Nat) : Prop := ∃ zs : List Int, zs.length = n ∧ In 255 zs ∧ W.ownsRow base 5 1 v n (zs.map (Value.int .u8))

theorem Bytes.of {W : World} {base : Nat} {v : Value} {n : Nat} {zs : List Int} (h : W.ownsRow base 5 1 v n (zs.map (Value.int .u8))) (hin : In 255 zs) : Bytes W base v n := ⟨zs, by have := h.1; simpa using this, hin, h⟩

theorem Bytes.below {W W' : World} {base : Nat} {v : Value} {n : Nat} (h : Bytes W base v n) (m : Below W.heap.size W W') : Bytes W' base v n := by
  obtain ⟨zs, h1, h2, h3⟩ := h
  exact ⟨zs, h1, h2, own_below h3 m⟩

/-- A byte stored anywhere. -/
theorem Bytes.store {W : World} {base : Nat} {v : Value} {n : Nat} (h : Bytes W base v n) (g j : Nat) (x : Int) (hx : 0 ≤ x ∧ x ≤ 255) : Bytes (W.setCell ⟨g, j, none⟩ (.int .u8 x)) base v n := by
  obtain ⟨zs, h1, h2, h3⟩ := h
  rcases h3.2 with ⟨rfl, rfl⟩ | ⟨g', cap, cur, rfl, hb, hg, hn, hc, hs, ht⟩
  · obtain rfl : zs = [] := List.eq_nil_of_length_eq_zero h1
    exact ⟨[], rfl, h2, World.ownsRow_nil _ _ _ _⟩
  · by_cases e : g' = g
    · subst e
      exact ⟨zs.set j x, by simpa using h1, in_set h2 _ _ hx, own_store h3 j x⟩
    · exact ⟨zs, h1, h2, h3.1, .inr ⟨g', cap, cur, rfl, hb, (Below.heap_setCell W ⟨g, j, none⟩ _ g' e).trans hg, hn, hc, hs, ht⟩⟩

/-- A box of another type, behind a byte that was stored in a row. -/
theorem box_store {W : World} {base : Nat} {g n c b : Nat} {xs : List Value} {cur : Array Value} {t : TypeId} {fr : Nat × Nat} (h : W.ownsRow base 5 1 (.slice (some ⟨g, 0, none⟩) n c) n xs) (hb : W.heap[b]? = some (.cells cur t fr)) (ht : t ≠ 5) (j : Nat) (x : Value) : (W.setCell ⟨g, j, none⟩ x).heap[b]? = some (.cells cur t fr) := by
  refine (Below.heap_setCell W ⟨g, j, none⟩ x b ?_).trans hb
  rintro rfl
  rcases h.2 with ⟨h1, _⟩ | ⟨g', cap, cur', h1, _, hg, _⟩
  · cases h1
  · injection h1 with h1
    injection h1 with h1
    injection h1 with h1
    subst h1
    rw [show W.heap[b]? = _ from hb] at hg
    injection hg with hg
    injection hg with _ e _
    exact ht e

theorem xor_in (x y : Int) (hx : 0 ≤ x ∧ x ≤ 255) (hy : 0 ≤ y ∧ y ≤ 255) : 0 ≤ bits .xor .u8 x y ∧ bits .xor .u8 x y ≤ 255 := by
  have hl : x.toNat ^^^ y.toNat < 256 := Nat.xor_lt_two_pow (n := 8) (by omega) (by omega)
  rw [u8_xor x y hx.1 (by omega) hy.1 (by omega)]
  omega
/-- What 'make([]T, l, c)' tells, T of one cell: l noughts of the call's own. -/
theorem own_made (w : World) (base : Nat) (hb : base ≤ w.heap.size) (e : TypeId) (z : Value) (l c : Nat) (hlc : l ≤ c) (hc : c ≤ maxLen) (i : TypeInfo) (hs : i.size = 1) (hz : z.cells = #[z]) :
    (w.alloc (.cells (madeCells z.cells (c * i.size)) e)).ownsRow base e 1 (.slice (some ⟨w.heap.size, 0, none⟩) l c) l (List.replicate l z) := by
  refine ⟨by simp, .inr ⟨w.heap.size, c, _, rfl, hb, heap_alloc_new w _, hlc, hc, by rw [size_madeCells, hs], ?_⟩⟩
  rw [hz, hs]
  apply List.ext_getElem
  · simp [madeCells]; omega
  · intro k h1 h2
    simp [madeCells, Nat.mod_one]
theorem wpListIn_make_lc {F : Fence} {n : Nat} {P : Program} (w : World) {ops : Array Oper} {rest : List Oper} {o : Oper} {a : Act} {Q : Exit → Act → World → Prop}
    (hg : o.guard = none) (l c : Operand) (t : TypeId) (hop : o.op = Op.makeSlice t l c)
    (base : Nat) (e : TypeId) (i : TypeInfo) (z : Value) (h1 : P.underlying t = some (.slice e)) (h2 : P.info? e = some i) (h3 : i.zero = some z) (h4 : i.size = 1) (hz : z.cells = #[z])
    (kl kc : IntKind) (L C : Int) (m k : Nat) (hl : a.eval l = .int kl L) (hc : a.eval c = .int kc C) (hL : L = (m : Int)) (hC : C = (k : Int)) (hmk : m ≤ k) (b2 : i.bytes * k ≤ 281474976710656) (b3 : k ≤ maxLen) (b4 : base ≤ w.heap.size)
    (hK : ∀ w', w'.ownsRow base e 1 (.slice (some ⟨w.heap.size, 0, none⟩) m k) m (List.replicate m z) → w.grownBy w' none → wpListIn F n P ops Q rest (a.put o.dst (.slice (some ⟨w.heap.size, 0, none⟩) m k)) w') :
    wpListIn F n P ops Q (o :: rest) a w := by
  refine wpListIn_plain hg fun K hK' => ?_
  subst hL hC
  have hB2 : (i.bytes : Int) * (k : Int) ≤ 281474976710656 := by
    have : ((i.bytes * k : Nat) : Int) ≤ 281474976710656 := by omega
    rwa [Int.natCast_mul] at this
  have hrun := run_make (P := P) w t e i z h1 h2 h3 kl kc (m : Int) (k : Int) (by omega) (by omega) hB2 (by unfold maxLen at b3; omega)
  rw [Int.toNat_natCast, Int.toNat_natCast] at hrun
  unfold Oper.wpIn
  refine ⟨?_, ?_⟩
  · simp [Oper.about, hop]
  · rw [Oper.semAt_plain F _ _ (by rw [hop]; intro c hc'; cases hc')]
    simp [execOp, hop, hl, hc, hrun, Result.andThen]
    exact hK' _ _ (hK _ (own_made w base b4 e z m k hmk b3 i h4 hz) (World.grownBy_alloc w _ _))
/-- A byte stored in a row of the call's own keeps all boxes of other types. -/
theorem keepT_own_store {W : World} {base g n c n₀ : Nat} {e : TypeId} {xs : List Value} {ts : List TypeId} (h : W.ownsRow base e 1 (.slice (some ⟨g, 0, none⟩) n c) n xs) (hn : n₀ ≤ g) (ht : e ∉ ts) (j : Nat) (u : Value) : KeepT n₀ ts W (W.setCell ⟨g, j, none⟩ u) := by
  refine ⟨(Below.refl _ W).setCell (p := ⟨g, j, none⟩) hn u, fun b cur t r hb h2 => ?_⟩
  refine (Below.heap_setCell W ⟨g, j, none⟩ u b ?_).trans h2
  rintro rfl
  rcases h.2 with ⟨h1, _⟩ | ⟨g', cap, cur', h1, _, hg, _⟩
  · cases h1
  · injection h1 with h1
    injection h1 with h1
    injection h1 with h1
    subst h1
    rw [show W.heap[b]? = _ from h2] at hg
    injection hg with hg
    injection hg with _ e' _
    exact ht (e' ▸ hb)
end Go.Proofs.YtpbheonapgckfaaDoor
