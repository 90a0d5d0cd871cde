/- Package encap: addresses: the map of all nodes' addresses; what is looked up in it. -/
import Derived.Test.YthenbpnlmpeafaaDoorEnI
import Derived.Test.YthenbpnlmpeafaaDoorEnB
import Derived.Test.YthenbpnlmpeafaaDoorRangeOkD
namespace Go.Proofs.YthenbpnlmpeafaaDoor
open Go.RowKit Go.Shelf
open SumM

attribute [local go_sem] Oper.semAt_some

/-- A node as a key. -/
def keyN (u : Nod) : Value := .agg #[.int .u8 u.1, .int .i64 u.2]
/-- The map's entries, for so many nodes from one on. -/
def entN (i : Nat) : List Nod → List MapEntry
  | [] => []
  | u :: r => { key := keyN u, val := .int .u32 (adr u), born := i } :: entN (i + 1) r
theorem entN_append (a b : List Nod) : ∀ i, entN i (a ++ b) = entN i a ++ entN (i + a.length) b := by
  induction a with
  | nil => intro i; simp [entN]
  | cons u r ih =>
    intro i
    simp only [List.cons_append, entN, ih, List.length_cons]
    rw [show i + 1 + r.length = i + (r.length + 1) by omega]
def mapN (us : List Nod) : Array MapEntry := (entN 0 us).toArray
theorem heap_alloc_new_any (w : World) (o : Obj) : (w.alloc o).heap[w.heap.size]? = some o := World.alloc_heap_new w o
theorem heap_alloc_new_at {w : World} {m : Nat} (h : w.heap.size = m) (o : Obj) : (w.alloc o).heap[m]? = some o := by subst h; exact World.alloc_heap_new w o
theorem ptrM_cell {w : World} {b : Nat} {v : Value} {t : TypeId} (h : w.heap[b]? = some (.cells #[v] t (0, 0))) : w.cell? ⟨b, 0, none⟩ = some v := by rw [cell_of_row _ _ _ _ _ _ h]; rfl
theorem check_nod (em : Bool) (k i : Int) (W : World) : (Instr.checkKey em 10000 23 (.agg #[.int .u8 k, .int .i64 i])).run Tryd.prog W = .ok () W := by kernel_rfl
set_option maxRecDepth 100000 in
theorem run_equalN (u v : Nod) (W : World) : (Op.equal 23 (keyN u) (keyN v)).run Tryd.prog W = .ok (eqD u v) W := by
  obtain ⟨a, b⟩ := u
  obtain ⟨c, d⟩ := v
  unfold keyN
  show (Op.equalIn 10000 _ _ _).run _ _ = _
  have hcase : (a = c ∧ b = d) ∨ (a = c ∧ b ≠ d) ∨ a ≠ c := by omega
  unfold eqD
  rcases hcase with ⟨rfl, rfl⟩ | ⟨rfl, e⟩ | e
  · rw [decide_eq_true ⟨rfl, rfl⟩]
    go_simp
  all_goals
    rw [decide_eq_false (by simp [e])]
    go_simp
set_option maxRecDepth 100000 in
theorem run_asking (u : Nod) (W : World) : ∀ (us : List Nod) (i j : Nat), ((∀ v ∈ us, v ≠ u) → (Instr.findAsking 23 (keyN u) (entN i us) j).run Tryd.prog W = .ok none W) ∧ (u ∈ us → ∃ m, (Instr.findAsking 23 (keyN u) (entN i us) j).run Tryd.prog W = .ok (some (m, .int .u32 (adr u))) W)
  | [], i, j => ⟨fun _ => rfl, fun h => by cases h⟩
  | v :: r, i, j => by
    obtain ⟨h1, h2⟩ := run_asking u W r (i + 1) (j + 1)
    have he := run_equalN u v W
    have hs : ∀ b, eqD u v = b → (Instr.findAsking 23 (keyN u) (entN i (v :: r)) j).run Tryd.prog W = if b = true then .ok (some (j, .int .u32 (adr v))) W else (Instr.findAsking 23 (keyN u) (entN (i + 1) r) (j + 1)).run Tryd.prog W := by
      intro b hb
      rw [hb] at he
      simp only [entN, Instr.findAsking]
      rw [Sem.run_bind, he]
      simp only [Result.andThen_ok]
      cases b <;> simp [Sem.run_pure]
    by_cases e : v = u
    · subst e
      refine ⟨fun h => absurd rfl (h v (by simp)), fun _ => ⟨j, ?_⟩⟩
      rw [hs true (eqD_iff.2 rfl)]
      simp
    · have hb : eqD u v = false := by
        rw [Bool.eq_false_iff]
        intro h
        exact e (eqD_iff.1 h).symm
      rw [hs false hb]
      simp only [Bool.false_eq_true, if_false]
      exact ⟨fun h => h1 fun x hx => h x (List.mem_cons_of_mem _ hx), fun h => h2 (by rcases List.mem_cons.1 h with h | h; exact absurd h.symm e; exact h)⟩
set_option maxRecDepth 100000 in
theorem run_find (u : Nod) (W : World) (us : List Nod) (i : Nat) : ((∀ v ∈ us, v ≠ u) → (Instr.findKey 23 (keyN u) (entN i us)).run Tryd.prog W = .ok none W) ∧ (u ∈ us → ∃ m, (Instr.findKey 23 (keyN u) (entN i us)).run Tryd.prog W = .ok (some (m, .int .u32 (adr u))) W) := by
  cases us with
  | nil => exact ⟨fun _ => rfl, fun h => by cases h⟩
  | cons v r =>
    have h := run_asking u W (v :: r) i 0
    have e : (Instr.findKey 23 (keyN u) (entN i (v :: r))).run Tryd.prog W = (Instr.findAsking 23 (keyN u) (entN i (v :: r)) 0).run Tryd.prog W := by
      unfold Instr.findKey
      rw [Sem.run_bind, run_underlying Tryd.underlying23]
      rfl
    rw [e]
    exact h

set_option maxRecDepth 100000 in
theorem zero_u32 (W : World) : (zeroValue 24).run Tryd.prog W = .ok (.int .u32 0) W := by kernel_rfl
set_option maxRecDepth 100000 in
theorem run_store (u : Nod) (us : List Nod) (b : Nat) (W : World) (hb : W.heap[b]? = some (.map (mapN us) us.length)) (hu : ∀ v ∈ us, v ≠ u) :
    (Instr.mapUpdate 57 (.map (some b)) (keyN u) (.int .u32 (adr u))).run Tryd.prog W = .ok () (W.putObj b (.map (mapN (us ++ [u])) (us.length + 1))) := by
  have hf := (run_find u W us 0).1 hu
  have hc := check_nod false u.1 u.2 W
  have he : (mapN us).push { key := keyN u, val := .int .u32 (adr u), born := us.length } = mapN (us ++ [u]) := by
    unfold mapN
    rw [entN_append]
    simp [entN]
  have e2 : ({ W with heap := W.heap.setIfInBounds b (.map (mapN (us ++ [u])) (us.length + 1)) } : World) = W.putObj b (.map (mapN (us ++ [u])) (us.length + 1)) := rfl
  rw [← e2, ← he]
  simp [Instr.mapUpdate, run_underlying Tryd.underlying57, MapKept.run_getObj_map hb, show (Instr.checkKey false 10000 23 (keyN u)).run Tryd.prog W = .ok () W from hc, show (mapN us).toList = entN 0 us from rfl, hf, MapKept.run_setObj_map _ hb, Result.andThen]
set_option maxRecDepth 100000 in
/-- 'v, ok := m[k]' and 'm[k]', of all nodes' addresses. -/
theorem run_look (u : Nod) (b : Nat) (W : World) (hb : W.heap[b]? = some (.map (mapN allN) 10)) (c : Bool) :
    (Instr.lookup 57 (.map (some b)) (keyN u) c).run Tryd.prog W = .ok (if c then .tuple #[.int .u32 (adrV u), .bool (isNod u)] else .int .u32 (adrV u)) W := by
  have hc := check_nod false u.1 u.2 W
  have hz := zero_u32 W
  cases h : isNod u
  · have hf := (run_find u W allN 0).1 (fun v hv e => by subst e; rw [isNod_mem.2 hv] at h; cases h)
    have hv : adrV u = 0 := by unfold adrV; rw [h]; rfl
    rw [hv]
    simp [Instr.lookup, run_underlying Tryd.underlying57, MapKept.run_getObj_map hb, show (mapN allN).isEmpty = false from rfl, show (Instr.checkKey false 10000 23 (keyN u)).run Tryd.prog W = .ok () W from hc, show (mapN allN).toList = entN 0 allN from rfl, hf, hz, Result.andThen]
  · obtain ⟨m, hf⟩ := (run_find u W allN 0).2 (isNod_mem.1 h)
    have hv : adrV u = adr u := by unfold adrV; rw [h]; rfl
    rw [hv]
    simp [Instr.lookup, run_underlying Tryd.underlying57, MapKept.run_getObj_map hb, show (mapN allN).isEmpty = false from rfl, show (Instr.checkKey false 10000 23 (keyN u)).run Tryd.prog W = .ok () W from hc, show (mapN allN).toList = entN 0 allN from rfl, hf, Result.andThen]

/-- What stands while the map is filled: its block, the box of its name. -/
structure AdBase (w : World) (pre : List Nod) (W : World) : Prop where
  lo : Below w.heap.size w W
  sz : w.heap.size + 2 ≤ W.heap.size
  mp : W.heap[w.heap.size]? = some (.map (mapN pre) pre.length)
  bx : W.heap[w.heap.size + 1]? = some (.cells #[.map (some w.heap.size)] 57 (0, 0))
theorem AdBase.new {w W : World} {pre : List Nod} (h : AdBase w pre W) (o : Obj) : AdBase w pre (W.alloc o) :=
  ⟨h.lo.alloc h.lo.size o, by rw [World.size_alloc]; have := h.sz; omega, (Below.heap_alloc _ _ _ (Array.getElem?_eq_some_iff.1 h.mp).1).trans h.mp, (Below.heap_alloc _ _ _ (Array.getElem?_eq_some_iff.1 h.bx).1).trans h.bx⟩
theorem AdBase.turn {w W : World} {pre : List Nod} (h : AdBase w pre W) {l : Nat} (o' : Obj) (hB : w.heap.size + 2 ≤ l) : AdBase w pre (W.putObj l o') :=
  ⟨h.lo.trans ⟨rfl, rfl, rfl, by simp [World.putObj], fun k hk => World.putObj_heap_other (by omega)⟩, by have := h.sz; simpa [World.putObj] using this, (World.putObj_heap_other (by omega)).trans h.mp, (World.putObj_heap_other (by omega)).trans h.bx⟩
theorem AdBase.drew {w W : World} {pre : List Nod} (h : AdBase w pre W) : AdBase w pre W.drew := ⟨⟨h.lo.os, h.lo.tape, h.lo.output, h.lo.size, h.lo.block⟩, h.sz, h.mp, h.bx⟩
theorem adBase_abide (w : World) (B : Nat) (hB : w.heap.size + 2 ≤ B) : Abide3 B (AdBase w) where
  new := fun _ _ o h => h.new o
  turn := fun _ _ _ _ o' h hl _ _ => h.turn o' (by omega)
theorem AdBase.stored {w W : World} {pre : List Nod} (u : Nod) (h : AdBase w pre W) : AdBase w (pre ++ [u]) (W.putObj w.heap.size (.map (mapN (pre ++ [u])) (pre.length + 1))) :=
  ⟨h.lo.trans ⟨rfl, rfl, rfl, by simp [World.putObj], fun k hk => World.putObj_heap_other (by omega)⟩, by have := h.sz; simpa [World.putObj] using this,
    by rw [List.length_append]; exact World.putObj_heap_same (Array.getElem?_eq_some_iff.1 h.mp).1, (World.putObj_heap_other (by omega)).trans h.bx⟩
theorem fresh_all : ∀ i : Nat, i < 10 → ∀ v ∈ allN.take i, allN[i]? ≠ some v := by decide
theorem nodOk_new {pre : List Nod} {u : Nod} (h : NodOk pre u) : (∀ v ∈ pre, v ≠ u) ∧ u ∈ allN := by
  refine ⟨fun v hv e => ?_, List.mem_of_getElem? h.2⟩
  subst e
  obtain ⟨h1, h2⟩ := h
  rw [h1] at hv
  exact fresh_all pre.length (List.getElem?_eq_some_iff.1 h2).1 v hv h2
theorem adr_bits : ∀ u ∈ allN, bits .or .u32 (bits .or .u32 167772160 (u.1 % 4294967296 * 256 % 4294967296)) (u.2 % 4294967296) = adr u := by decide
theorem nodes_okD (n : Nat) (hn : 1 ≤ n) (w : World) :
    SeqOkD Fence.wide n Tryd.prog 43 #[] encN (fun pre x _ => NodOk pre x) (fun _ _ => True) (fun xs => xs = allN) (fun _ => True) w :=
  fun l J Jx W hW hN _ hY h0 => nodes_ok n hn w l J Jx W hW hN hY h0

set_option maxRecDepth 100000 in
set_option maxHeartbeats 4000000 in
theorem addresses_in (n : Nat) (hn : 4 ≤ n) (w : World) : CallsIn Fence.wide n Tryd.prog 27 #[] w fun e w' => e = .returned (.map (some w.heap.size)) ∧ w'.heap[w.heap.size]? = some (.map (mapN allN) 10) ∧ Below w.heap.size w w' := by
  have h1n : 1 ≤ n := by omega
  have hmm := @run_makeMap Tryd.prog
  refine callsIn_of_wp_marks Tryd.func27 rfl trivial ?_ rfl
  simp only [Tryd.ntmps27, List.size_toArray, List.length_nil, Nat.reduceSub, Array.replicate_succ, Array.replicate_zero, List.push_toArray, List.append_toArray, List.nil_append, List.cons_append]
  have B0 : AdBase w [] ((w.alloc (.map #[] 0)).alloc (.cells #[.map (some w.heap.size)] 57)) :=
    ⟨((Below.refl _ w).alloc (Nat.le_refl _) _).alloc (by simp) _, by simp, (Below.heap_alloc _ _ _ (by simp)).trans (heap_alloc_new_any w _), heap_alloc_new_at (by simp) _⟩
  gi_wp2_with fail
  refine ⟨trivial, (nodes_fn (n - 1) _).mono ?_⟩
  rintro e w1 ⟨rfl, rfl⟩
  have hs : ((w.alloc (.map #[] 0)).alloc (.cells #[.map (some w.heap.size)] 57)).heap.size = w.heap.size + 2 := by simp
  generalize (w.alloc (.map #[] 0)).alloc (.cells #[.map (some w.heap.size)] 57) = V at *
  have HB := Lib.hid B0
  clear B0
  gi_wp2
  refine range_okD rfl h1n (gf := 43) (lb := #[]) rfl trivial (enters_of Tryd.func43 (by kernel_rfl) rfl)
      (nodes_okD (n - 1) (by omega) V) (fun _ _ _ _ _ _ h _ _ _ => h) (fun _ _ => trivial) (fun _ _ _ _ _ _ _ _ => trivial) (fun _ => rfl)
      (AdBase w) (fun _ _ _ => False) (adBase_abide w V.heap.size (by omega)) (fun _ => ⟨fun _ _ _ h => h, fun _ _ _ _ _ h _ _ _ => h⟩) (fun _ _ h => h.drew) HB.out
      (fun u => .cells #[.int .u8 u.1, .int .i64 u.2] 23) (fun _ _ => trivial) (fun _ _ _ h => h)
      (fun u b => { tmps := #[.map none, .pointer (some ⟨w.heap.size + 1, 0, none⟩), .pointer (some ⟨b, 0, none⟩), .map (some w.heap.size), .func (.func 43) #[] #[], .agg #[.int .u8 u.1, .int .i64 u.2], undef, undef, undef, undef, undef, undef, undef, undef, undef, undef, undef, undef], defers := [] }) ?assign ?body ?done ?stop
  case assign =>
    intro l x W K hK
    simp only [encN] at hK ⊢
    gi_wp2
    exact hK
  case stop =>
    rintro D c pre W hD _ h
    exact h.elim
  case done =>
    rintro D ys W hD rfl hb hK
    have HB2 := Lib.hid hb
    have HK := Lib.hid hK
    have hc := ptrM_cell hb.bx
    clear hb hK HB
    gi_wp2
    refine ⟨by simp, .inl ⟨_, _, rfl, run_takeDeferred HK.out, ?_⟩⟩
    have hD2 : w.heap.size + 2 ≤ D := by omega
    exact ⟨_, results_tmp rfl _ _ _, rfl, (World.putObj_heap_other (by omega)).trans HB2.out.mp, HB2.out.lo.trans (belowK_b (w := w) (Nat.le_refl _) W D _ (.deferred none) (by omega) HK.out rfl rfl)⟩
  case body =>
    rintro l pre x W b hb hx hb1 hb2 hbx
    obtain ⟨x1, x2⟩ := x
    obtain ⟨q0, q1⟩ := nod_cells _ _ hbx
    have hc := ptrM_cell hb.bx
    have HB2 := Lib.hid hb
    obtain ⟨hx1, hx2⟩ := nodOk_new hx
    have hst := run_store (x1, x2) pre w.heap.size W hb.mp hx1
    rw [← adr_bits _ hx2] at hst
    unfold keyN at hst
    have HM := Lib.hid hb.mp
    clear hb hx hbx HB hx1 hx2
    gi_wp2
    refine ⟨⟨by simp [World.putObj], fun k o hk ho hco => ?_⟩, trivial, HB2.out.stored (x1, x2)⟩
    exact (World.putObj_heap_other (by omega)).trans ho
end Go.Proofs.YthenbpnlmpeafaaDoor
