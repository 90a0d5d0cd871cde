/- Numbers as bytes: package sheet's number: put. -/
import Derived.Test.YthgoopdekllanaaShF
import Derived.Deep.RegionHeldLaw
namespace Go.Proofs.Ythgoopdekllanaa
open Go.RowKit Go.Shelf
open SumM

attribute [local go_sem] Oper.semAt_some

/-- Types whose blocks bytes leave as they lie. -/
def uTs : List TypeId := [29, 63, 3, 30, 81, 84, 78, 79]
/-- A number as it is handed out: where it lies, what is added, in how many bytes. -/
abbrev nmV (a : Addr) (pl wd : Int) : Value := .agg #[.pointer (some a), .int .i64 pl, .int .i64 wd]
def NPut (base : Nat) (bs : List Int) (x : Int) (wd : Nat) (w : World) : Ending → World → Prop := fun e w' => ∃ v', e = .returned v' ∧ w'.ownsRow base 5 1 v' (bs.length + wd) ((bs ++ be wd x).map (Value.int .u8)) ∧ KeepA base uTs w w'
/-- A number lies there, in a block that bytes leave as it lies. -/
def NumAt (W : World) (a : Addr) (x : Int) : Prop := ∃ cur t r, W.heap[a.block]? = some (.cells cur t r) ∧ t ∈ uTs ∧ W.cell? a = some (.int .i64 x)
theorem cell_block {A B : World} {a : Addr} (h : B.heap[a.block]? = A.heap[a.block]?) : B.cell? a = A.cell? a := by simp [World.cell?, h]
theorem NumAt.kept {A B : World} {a : Addr} {x : Int} {n : Nat} (h : NumAt A a x) (k : KeepT n uTs A B) : NumAt B a x := by
  obtain ⟨cur, t, r, h1, h2, h3⟩ := h
  have := k.2 _ _ _ _ h2 h1
  exact ⟨cur, t, r, this, h2, (cell_block (this.trans h1.symm)).trans h3⟩
theorem keepA_t {n : Nat} {ts : List TypeId} {A B C : World} (h : KeepA n ts A B) (k : KeepA n ts B C) : KeepA n ts A C := ⟨keepT_t h.1 k.1, h.2.trans k.2⟩
theorem keepA_new {n : Nat} {ts : List TypeId} {W : World} (o : Obj) (hn : n ≤ W.heap.size) : KeepA n ts W (W.alloc o) := ⟨keepT_new o hn, KeepsOthers.alloc W o⟩
theorem keepA_drew (n : Nat) (ts : List TypeId) (W : World) : KeepA n ts W W.drew := ⟨⟨(Below.refl n W).drew, fun _ _ _ _ _ h => h⟩, ⟨Nat.le_refl _, fun _ _ h _ => h⟩⟩
/-- The bytes of x, so far. -/
def beU (wd : Nat) (x : Int) (k : Nat) : List Int := upto (fun i => x / 256 ^ (wd - 1 - i) % 256) k
theorem beU_len (wd : Nat) (x : Int) (k : Nat) : (beU wd x k).length = k := upto_length _ _
theorem beU_succ (wd : Nat) (x : Int) (k : Nat) : beU wd x (k + 1) = beU wd x k ++ [x / 256 ^ (wd - 1 - k) % 256] := upto_succ _ _
theorem beU_shift (x : Int) (j : Nat) (h : j ≤ 6) : IntKind.u8.wrap (x / 2 ^ min (8 * (j : Int)).toNat 64) = x / 256 ^ j % 256 := by
  rw [show (8 * (j : Int)).toNat = 8 * j by omega, show min (8 * j) 64 = 8 * j by omega, show (256 : Int) = 2 ^ 8 by rfl, ← Int.pow_mul]
  rfl
theorem numb_cells {w : World} {b : Nat} {a : Addr} {pl wd : Int} (h : w.heap[b]? = some (.cells #[.pointer (some a), .int .i64 pl, .int .i64 wd] 81 (0, 0))) :
    w.cell? ⟨b, 0, none⟩ = some (.pointer (some a)) ∧ w.cell? ⟨b, 1, none⟩ = some (.int .i64 pl) ∧ w.cell? ⟨b, 2, none⟩ = some (.int .i64 wd) := by
  refine ⟨?_, ?_, ?_⟩ <;> (rw [cell_of_row _ _ _ _ _ _ h]; rfl)

set_option maxRecDepth 100000 in
set_option maxHeartbeats 4000000 in
theorem nput_any (B o : Nat) (x pl : Int) (wd : Nat) (hwd : wd ≤ 6) (hx : I64 (x + pl)) (base : Nat) (v : Value) (bs : List Int) (hbs : bs.length ≤ 10000) (w : World) (hB : base ≤ w.heap.size) (hc : NumAt w ⟨B, o, none⟩ x) (hO : w.ownsRow base 5 1 v bs.length (bs.map (Value.int .u8))) :
    Calls Try.prog 48 #[nmV ⟨B, o, none⟩ pl (wd : Nat), v] w (NPut base bs (x + pl) wd w) := by
  obtain ⟨i0, hi, hz0, hz1, hz2⟩ := info_parts Try.infoU8
  have bN := heap_alloc_new w (.cells #[.pointer (some ⟨B, o, none⟩), .int .i64 pl, .int .i64 (wd : Nat)] 81)
  have K0 := keepA_new (ts := uTs) (.cells #[.pointer (some ⟨B, o, none⟩), .int .i64 pl, .int .i64 (wd : Nat)] 81) hB
  have O0 := hO.alloc (.cells #[.pointer (some ⟨B, o, none⟩), .int .i64 pl, .int .i64 (wd : Nat)] 81)
  obtain ⟨c0, c1, c2⟩ := numb_cells bN
  have hbw : w.heap.size < (w.alloc (.cells #[.pointer (some ⟨B, o, none⟩), .int .i64 pl, .int .i64 (wd : Nat)] 81)).heap.size := by simp
  have H0 := Lib.hid (And.intro K0 (And.intro O0 bN))
  have HC := Lib.hid hc
  have HSZ := Lib.hid hB
  have HWX := Lib.hid (And.intro hx (And.intro hbs hwd))
  clear hx hbs hwd hB hO K0 O0 bN hc
  go_enter Try.func48, Try.ntmps48
  go_wp2_with fail
  generalize w.alloc (.cells #[.pointer (some ⟨B, o, none⟩), .int .i64 pl, .int .i64 (wd : Nat)] 81) = W0 at *
  clear c0 c1 c2
  go_loopw [1, 8] (fun u i wr => ∃ k : Nat, k ≤ wd ∧ i = .int .i64 (k : Nat) ∧ wr.ownsRow base 5 1 u (bs.length + k) ((bs ++ beU wd (x + pl) k).map (Value.int .u8)) ∧ KeepA base uTs W0 wr) (fun _ i _ => wd - (intOf i).toNat)
  case atStart => exact ⟨0, by omega, rfl, by simpa [beU, upto] using H0.out.2.1, KeepA.refl _ _ _⟩
  case round =>
    obtain ⟨k, hk, rfl, hO, hK⟩ := hrel
    by_cases hlt : k < wd
    · have HCx := Lib.hid ((HC.out.kept H0.out.1.1).kept hK.1)
      have bN := hK.1.2 _ _ _ _ (by decide) H0.out.2.2
      have hbN := Lib.hid bN
      clear bN
      have hsz : base ≤ wr.heap.size := by have := hK.1.1.size; have := H0.out.1.1.1.size; have := HSZ.out; omega
      have HK := Lib.hid hK
      have HO := Lib.hid hO
      have HLT := Lib.hid (And.intro hlt hsz)
      have q3 : decide ((k : Int) < (wd : Int)) = true := decide_eq_true (by omega)
      obtain ⟨a1, ha1⟩ : ∃ a, a = (wd : Int) - 1 := ⟨_, rfl⟩
      obtain ⟨a2, ha2⟩ : ∃ a, a = (wd : Int) - 1 - k := ⟨_, rfl⟩
      obtain ⟨a3, ha3⟩ : ∃ a, a = 8 * ((wd : Int) - 1 - k) := ⟨_, rfl⟩
      have hw6 := HWX.out.2.2
      have h31 : IntKind.i64.wrap ((wd : Int) - 1) = a1 := by rw [ha1]; exact IntWalk.i64_in _ (by omega)
      have h33 : IntKind.i64.wrap (a1 - k) = a2 := by rw [ha1, ha2]; exact IntWalk.i64_in _ (by omega)
      have h34 : IntKind.i64.wrap (8 * a2) = a3 := by rw [ha2, ha3]; exact IntWalk.i64_in _ (by omega)
      have h0 : 0 ≤ a3 := by omega
      have h30 : IntKind.i64.wrap (x + pl) = x + pl := IntWalk.i64_in _ HWX.out.1
      obtain ⟨qv, h35⟩ : ∃ q, (x + pl) / 2 ^ min a3.toNat 64 = q := ⟨_, rfl⟩
      obtain ⟨y, h36⟩ : ∃ y, IntKind.u8.wrap qv = y := ⟨_, rfl⟩
      have HY := Lib.hid (show y = (x + pl) / 256 ^ (wd - 1 - k) % 256 by
        have := beU_shift (x + pl) (wd - 1 - k) (by omega)
        rw [← this, ← h36, ← h35, ha3, show (8 * ((wd : Int) - 1 - (k : Int))) = 8 * ((wd - 1 - k : Nat) : Int) by omega])
      clear ha1 ha2 ha3 hw6 hsz hlt hK hO
      generalize hwd : ((wd : Nat) : Int) = wi at *
      generalize hki : ((k : Nat) : Int) = ki at *
      generalize hxp : x + pl = xp at *
      have HWI := Lib.hid (And.intro hwd (And.intro hki hxp))
      replace h30 : IntKind.i64.wrap (x + pl) = xp := by rw [hxp]; exact h30
      clear hwd hki hxp
      go_upto_region 4 with fail
      have CS := Lib.hid (fun W (m : KeepT base uTs wr W) => show (W.cell? ⟨w.heap.size, 0, none⟩ = some (.pointer (some ⟨B, o, none⟩)) ∧ W.cell? ⟨w.heap.size, 1, none⟩ = some (.int .i64 pl) ∧ W.cell? ⟨w.heap.size, 2, none⟩ = some (.int .i64 wi)) ∧ W.cell? ⟨B, o, none⟩ = some (.int .i64 x) from
        ⟨numb_cells (m.2 _ _ _ _ (by decide) hbN.out), by obtain ⟨_, _, _, _, _, h⟩ := HCx.out.kept m; exact h⟩)
      have nc : KeepA base uTs wr wr.drew := keepA_drew _ _ _
      refine wp_region_held_drew (S := fun W => (W.cell? ⟨w.heap.size, 0, none⟩ = some (.pointer (some ⟨B, o, none⟩)) ∧ W.cell? ⟨w.heap.size, 1, none⟩ = some (.int .i64 pl) ∧ W.cell? ⟨w.heap.size, 2, none⟩ = some (.int .i64 wi)) ∧ W.cell? ⟨B, o, none⟩ = some (.int .i64 x)) (by kernel_rfl) (CS.out _ nc.1) (fun hHeld => ?_)
      refine wpAnyH_take (i := 0) (oi := { dst := some 11, op := Op.move (Operand.tmp 1), type := 30, pos := "sheet.go:217", after := #[], guard := none }) (v := ?_) rfl (by kernel_rfl) (by kernel_rfl) (by kernel_rfl) (fun _ _ _ h => h) (Or.inl ⟨by rfl, ?_⟩) (by assumption) ?_
      rotate_left
      · intro w hSw
        (try dsimp only at hSw)
        first | (go_simp; done) | (go_simp; with_reducible rfl)
      (try simp only [Act.put, List.setIfInBounds_toArray, List.set_cons_zero, List.set_cons_succ])
      refine wpAnyH_take (i := 1) (oi := { dst := some 12, op := Op.fieldAddr 81 (Operand.tmp 2) 0, type := 0, pos := "sheet.go:217", after := #[], guard := none }) (v := ?_) rfl (by kernel_rfl) (by kernel_rfl) (by kernel_rfl) (fun _ _ _ h => h) (Or.inl ⟨by rfl, ?_⟩) (by assumption) ?_
      rotate_left
      · intro w hSw
        (try dsimp only at hSw)
        first | (go_simp; done) | (go_simp; with_reducible rfl)
      (try simp only [Act.put, List.setIfInBounds_toArray, List.set_cons_zero, List.set_cons_succ])
      refine wpAnyH_take (i := 2) (oi := { dst := some 13, op := Op.load 79 (Operand.tmp 12), type := 79, pos := "sheet.go:217", after := #[{ on := 1, ground := Ground.data }], guard := none }) (v := ?_) rfl (by kernel_rfl) (by kernel_rfl) (by kernel_rfl) (fun _ _ _ h => h) (Or.inl ⟨by rfl, ?_⟩) (by assumption) ?_
      rotate_left
      · intro w hSw
        (try dsimp only at hSw)
        first | (go_simp; done) | (go_simp; with_reducible rfl)
      (try simp only [Act.put, List.setIfInBounds_toArray, List.set_cons_zero, List.set_cons_succ])
      refine wpAnyH_take (i := 3) (oi := { dst := some 14, op := Op.nilCheck (Operand.tmp 13), type := 0, pos := "sheet.go:217", after := #[{ on := 2, ground := Ground.data }], guard := none }) (v := ?_) rfl (by kernel_rfl) (by kernel_rfl) (by kernel_rfl) (fun _ _ _ h => h) (Or.inl ⟨by rfl, ?_⟩) (by assumption) ?_
      rotate_left
      · intro w hSw
        (try dsimp only at hSw)
        first | (go_simp; done) | (go_simp; with_reducible rfl)
      (try simp only [Act.put, List.setIfInBounds_toArray, List.set_cons_zero, List.set_cons_succ])
      refine wpAnyH_take (i := 4) (oi := { dst := some 15, op := Op.load 3 (Operand.tmp 14), type := 3, pos := "sheet.go:217", after := #[{ on := 3, ground := Ground.data }], guard := none }) (v := ?_) rfl (by kernel_rfl) (by kernel_rfl) (by kernel_rfl) (fun _ _ _ h => h) (Or.inl ⟨by rfl, ?_⟩) (by assumption) ?_
      rotate_left
      · intro w hSw
        (try dsimp only at hSw)
        first | (go_simp; done) | (go_simp; with_reducible rfl)
      (try simp only [Act.put, List.setIfInBounds_toArray, List.set_cons_zero, List.set_cons_succ])
      refine wpAnyH_take (i := 5) (oi := { dst := some 16, op := Op.fieldAddr 81 (Operand.tmp 2) 1, type := 0, pos := "sheet.go:217", after := #[], guard := none }) (v := ?_) rfl (by kernel_rfl) (by kernel_rfl) (by kernel_rfl) (fun _ _ _ h => h) (Or.inl ⟨by rfl, ?_⟩) (by assumption) ?_
      rotate_left
      · intro w hSw
        (try dsimp only at hSw)
        first | (go_simp; done) | (go_simp; with_reducible rfl)
      (try simp only [Act.put, List.setIfInBounds_toArray, List.set_cons_zero, List.set_cons_succ])
      refine wpAnyH_take (i := 6) (oi := { dst := some 17, op := Op.load 3 (Operand.tmp 16), type := 3, pos := "sheet.go:217", after := #[{ on := 5, ground := Ground.data }], guard := none }) (v := ?_) rfl (by kernel_rfl) (by kernel_rfl) (by kernel_rfl) (fun _ _ _ h => h) (Or.inl ⟨by rfl, ?_⟩) (by assumption) ?_
      rotate_left
      · intro w hSw
        (try dsimp only at hSw)
        first | (go_simp; done) | (go_simp; with_reducible rfl)
      (try simp only [Act.put, List.setIfInBounds_toArray, List.set_cons_zero, List.set_cons_succ])
      refine wpAnyH_take (i := 7) (oi := { dst := some 18, op := Op.binOp BinOp.add 3 (Operand.tmp 15) (Operand.tmp 17) 3, type := 3, pos := "sheet.go:217", after := #[{ on := 4, ground := Ground.data }, { on := 6, ground := Ground.data }], guard := none }) (v := .int .i64 xp) rfl (by kernel_rfl) (by kernel_rfl) (by kernel_rfl) (fun _ _ _ h => h) (Or.inl ⟨by rfl, ?_⟩) (by assumption) ?_
      · intro w hSw
        (try dsimp only at hSw)
        go_simp
        try rw [h30]
      (try simp only [Act.put, List.setIfInBounds_toArray, List.set_cons_zero, List.set_cons_succ])
      refine wpAnyH_take (i := 8) (oi := { dst := some 19, op := Op.fieldAddr 81 (Operand.tmp 2) 2, type := 0, pos := "sheet.go:217", after := #[], guard := none }) (v := ?_) rfl (by kernel_rfl) (by kernel_rfl) (by kernel_rfl) (fun _ _ _ h => h) (Or.inl ⟨by rfl, ?_⟩) (by assumption) ?_
      rotate_left
      · intro w hSw
        (try dsimp only at hSw)
        first | (go_simp; done) | (go_simp; with_reducible rfl)
      (try simp only [Act.put, List.setIfInBounds_toArray, List.set_cons_zero, List.set_cons_succ])
      refine wpAnyH_take (i := 9) (oi := { dst := some 20, op := Op.load 3 (Operand.tmp 19), type := 3, pos := "sheet.go:217", after := #[{ on := 8, ground := Ground.data }], guard := none }) (v := ?_) rfl (by kernel_rfl) (by kernel_rfl) (by kernel_rfl) (fun _ _ _ h => h) (Or.inl ⟨by rfl, ?_⟩) (by assumption) ?_
      rotate_left
      · intro w hSw
        (try dsimp only at hSw)
        first | (go_simp; done) | (go_simp; with_reducible rfl)
      (try simp only [Act.put, List.setIfInBounds_toArray, List.set_cons_zero, List.set_cons_succ])
      refine wpAnyH_take (i := 10) (oi := { dst := some 21, op := Op.binOp BinOp.sub 3 (Operand.tmp 20) (Operand.const (Value.int IntKind.i64 1)) 3, type := 3, pos := "sheet.go:217", after := #[{ on := 9, ground := Ground.data }], guard := none }) (v := .int .i64 a1) rfl (by kernel_rfl) (by kernel_rfl) (by kernel_rfl) (fun _ _ _ h => h) (Or.inl ⟨by rfl, ?_⟩) (by assumption) ?_
      · intro w hSw
        (try dsimp only at hSw)
        go_simp
        try rw [h31]
      (try simp only [Act.put, List.setIfInBounds_toArray, List.set_cons_zero, List.set_cons_succ])
      refine wpAnyH_take (i := 11) (oi := { dst := some 22, op := Op.move (Operand.tmp 5), type := 3, pos := "sheet.go:217", after := #[], guard := none }) (v := ?_) rfl (by kernel_rfl) (by kernel_rfl) (by kernel_rfl) (fun _ _ _ h => h) (Or.inl ⟨by rfl, ?_⟩) (by assumption) ?_
      rotate_left
      · intro w hSw
        (try dsimp only at hSw)
        first | (go_simp; done) | (go_simp; with_reducible rfl)
      (try simp only [Act.put, List.setIfInBounds_toArray, List.set_cons_zero, List.set_cons_succ])
      refine wpAnyH_take (i := 12) (oi := { dst := some 23, op := Op.binOp BinOp.sub 3 (Operand.tmp 21) (Operand.tmp 22) 3, type := 3, pos := "sheet.go:217", after := #[{ on := 10, ground := Ground.data }, { on := 11, ground := Ground.data }], guard := none }) (v := .int .i64 a2) rfl (by kernel_rfl) (by kernel_rfl) (by kernel_rfl) (fun _ _ _ h => h) (Or.inl ⟨by rfl, ?_⟩) (by assumption) ?_
      · intro w hSw
        (try dsimp only at hSw)
        go_simp
        try rw [h33]
      (try simp only [Act.put, List.setIfInBounds_toArray, List.set_cons_zero, List.set_cons_succ])
      refine wpAnyH_take (i := 13) (oi := { dst := some 24, op := Op.binOp BinOp.mul 3 (Operand.const (Value.int IntKind.i64 8)) (Operand.tmp 23) 3, type := 3, pos := "sheet.go:217", after := #[{ on := 12, ground := Ground.data }], guard := none }) (v := .int .i64 a3) rfl (by kernel_rfl) (by kernel_rfl) (by kernel_rfl) (fun _ _ _ h => h) (Or.inl ⟨by rfl, ?_⟩) (by assumption) ?_
      · intro w hSw
        (try dsimp only at hSw)
        go_simp
        try rw [h34]
      (try simp only [Act.put, List.setIfInBounds_toArray, List.set_cons_zero, List.set_cons_succ])
      refine wpAnyH_take (i := 14) (oi := { dst := some 25, op := Op.binOp BinOp.shr 3 (Operand.tmp 18) (Operand.tmp 24) 3, type := 3, pos := "sheet.go:217", after := #[{ on := 7, ground := Ground.data }, { on := 13, ground := Ground.data }], guard := none }) (v := .int .i64 qv) rfl (by kernel_rfl) (by kernel_rfl) (by kernel_rfl) (fun _ _ _ h => h) (Or.inl ⟨by rfl, ?_⟩) (by assumption) ?_
      · intro w hSw
        (try dsimp only at hSw)
        go_simp
        try rw [h35]
      (try simp only [Act.put, List.setIfInBounds_toArray, List.set_cons_zero, List.set_cons_succ])
      refine wpAnyH_take (i := 15) (oi := { dst := some 26, op := Op.convert 3 5 (Operand.tmp 25), type := 5, pos := "sheet.go:217", after := #[{ on := 14, ground := Ground.data }], guard := none }) (v := .int .u8 y) rfl (by kernel_rfl) (by kernel_rfl) (by kernel_rfl) (fun _ _ _ h => h) (Or.inl ⟨by rfl, ?_⟩) (by assumption) ?_
      · intro w hSw
        (try dsimp only at hSw)
        go_simp
        try rw [h36]
      (try simp only [Act.put, List.setIfInBounds_toArray, List.set_cons_zero, List.set_cons_succ])
      refine wpAnyH_ready (rs := [16]) (by kernel_rfl) (by simp) ?_
      refine AllReadyH.cons (o := { dst := some 27, op := Op.buildSlice 30 1 #[(0, Operand.tmp 26)], type := 30, pos := "sheet.go:217", after := #[{ on := 15, ground := Ground.data }], guard := none }) rfl (fun K hK => ?_) AllReadyH.nil
      go_simp
      have nc := keepA_t nc (keepA_new (ts := uTs) (.cells #[.int .u8 y] 5) (W := wr.drew) HLT.out.2)
      have O1 : wr.drew.ownsRow base 5 1 u1 (bs.length + k) ((bs ++ beU wd xp k).map (Value.int .u8)) := HO.out
      refine hK.out _ _ (CS.out _ nc.1) (fun hHeld => ?_)
      clear hK K
      (try simp only [Act.put, List.setIfInBounds_toArray, List.set_cons_zero, List.set_cons_succ])
      refine wpAnyH_ready (rs := [17]) (by kernel_rfl) (by simp) ?_
      refine AllReadyH.cons (o := { dst := some 28, op := Op.call { callee := Callee.builtin Builtin.append, args := #[Operand.tmp 11, Operand.tmp 27], argTypes := #[30, 30] }, type := 30, pos := "sheet.go:217", after := #[{ on := 0, ground := Ground.data }, { on := 16, ground := Ground.data }], guard := none }) rfl (fun K hK => ?_) AllReadyH.nil
      refine step_append_w _ (by rfl) _ _ _ (by rfl) base 5 i0 (.int .u8 0) 1 Try.underlying30 hi hz0 hz1 hz2 rfl _ (bs.length + k) ((bs ++ beU wd xp k).map (Value.int .u8)) (by rfl) (O1.alloc _) ⟨wr.drew.heap.size, 0, none⟩ 1 1 [.int .u8 y] (by rfl) (by rfl) (cell_one_new _ _ _) (by simp [Value.oneCell']) (by omega) (by have := HWX.out; have := HLT.out; unfold maxLen; omega) (by have := HWX.out; have := HLT.out; omega) (by have := HLT.out; simp; omega) ?_
      intro g' cp' w4 hown4 hgrow4
      have nc := keepA_append (keepA_drew base uTs wr) HLT.out.2 O1 (by decide) hgrow4
      have HO4 := Lib.hid hown4
      have HN4 := Lib.hid (keepA_t HK.out nc)
      clear hown4 hgrow4 O1
      refine hK.out _ _ (CS.out _ nc.1) (fun hHeld => ?_)
      clear hK K
      (try simp only [Act.put, List.setIfInBounds_toArray, List.set_cons_zero, List.set_cons_succ])
      refine wpAnyH_take (i := 18) (oi := { dst := some 1, op := Op.assign (Operand.tmp 28), type := 30, pos := "sheet.go:217", after := #[{ on := 17, ground := Ground.data }, { on := 17, ground := Ground.chain }, { on := 0, ground := Ground.phase }, { on := 1, ground := Ground.phase }, { on := 2, ground := Ground.phase }, { on := 3, ground := Ground.phase }, { on := 4, ground := Ground.phase }, { on := 5, ground := Ground.phase }, { on := 6, ground := Ground.phase }, { on := 7, ground := Ground.phase }, { on := 8, ground := Ground.phase }, { on := 9, ground := Ground.phase }, { on := 10, ground := Ground.phase }, { on := 11, ground := Ground.phase }, { on := 12, ground := Ground.phase }, { on := 13, ground := Ground.phase }, { on := 14, ground := Ground.phase }, { on := 15, ground := Ground.phase }, { on := 16, ground := Ground.phase }, { on := 17, ground := Ground.phase }], guard := none }) (v := ?_) rfl (by kernel_rfl) (by kernel_rfl) (by kernel_rfl) (fun _ _ _ h => h) (Or.inl ⟨by rfl, ?_⟩) (by assumption) ?_
      rotate_left
      · intro w hSw
        (try dsimp only at hSw)
        first | (go_simp; done) | (go_simp; with_reducible rfl)
      (try simp only [Act.put, List.setIfInBounds_toArray, List.set_cons_zero, List.set_cons_succ])
      refine wpAnyH_done (by kernel_rfl) ?_ _
      clear CS h30 h31 h33 h34 h35 h36 h0 hHeld
      obtain ⟨rfl, rfl, rfl⟩ := HWI.out
      have h7 := HLT.out.1
      have h8 := HWX.out.2.2
      go_wp2
      go_roundw
      case rel =>
        refine ⟨k + 1, by omega, by go_num, ?_, HN4.out⟩
        rw [beU_succ, ← HY.out, ← List.append_assoc, List.map_append]
        exact HO4.out
      case measure => simp [intOf]; omega

    · obtain rfl : k = wd := by omega
      have HO := Lib.hid hO
      have HK := Lib.hid (keepA_t H0.out.1 hK)
      clear hO hK
      go_wp2
      go_ret
      exact ⟨_, rfl, HO.out, HK.out⟩

end Go.Proofs.Ythgoopdekllanaa
