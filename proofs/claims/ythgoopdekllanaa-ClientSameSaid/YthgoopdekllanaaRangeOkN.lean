/- A range over a function within a round of another one; the outer one's body is told of its own record. Nothing of the program is imported. -/
import Derived.Test.YthgoopdekllanaaRangeOkT
import Derived.RangeFuncNested
namespace Go.Proofs.Ythgoopdekllanaa
open Go.RowKit Go.Shelf

theorem range_okH {F : Fence} {n : Nat} {P : Program} {α : Type} {g : Operand} {ps : Array Tmp} {assign body : Code} {Q : Exit → Act → World → Prop} {a : Act} {w : World}
    (hro : F.round = none) (h1 : 1 ≤ n) {gf : Nat} {lb : Array Value} (hg : a.eval g = .func (.func gf) #[] lb) (hFg : F.fn gf) (eg : ∀ args w, (callFunc gf args).run P w = .ok (.enter gf args) w)
    {encs : α → Array Value} {Ok : List α → α → World → Prop} {Kp : World → World → Prop} {S Sp : List α → Prop} (hseq : SeqOkT F (n - 1) P gf lb encs Ok Kp S Sp w)
    (hOk : ∀ pre x W l o o', Ok pre x W → w.heap.size ≤ l → W.heap[l]? = some o → o.isCells = false → Ok pre x (W.putObj l o'))
    (hKt : ∀ {A B C : World}, Kp A B → Kp B C → Kp A C) (hKb : ∀ (W : World) (l : Nat) (o o' : Obj), w.heap.size ≤ l → W.heap[l]? = some o → o.isCells = false → o.isWalk = false → Kp W (W.putObj l o')) (hps : ∀ x, (encs x).size = ps.size)
    (I : List α → World → Prop) (Ix : Code → List α → World → Prop) (hI : Abide4 w.heap.size I) (hIx : ∀ c pre W l o o', Ix c pre W → w.heap.size ≤ l → W.heap[l]? = some o → o.isCells = false → Ix c pre (W.putObj l o')) (h0 : I [] w) (ob : α → Obj) (hOa : ∀ pre x W, Ok pre x W → Ok pre x (W.alloc (ob x))) (a₁ : α → Nat → Act)
    (hassign : ∀ (l : Nat) (x : α) (W : World) (K : Act → World → Prop), K (a₁ x W.heap.size) (W.alloc (ob x)) → assign.wpIn (F.inRound l) (n - 1 - 1) P (Exit.then K (fun _ _ _ => False)) { tmps := (ps.zip (encs x)).foldl (fun t (p, v) => t.setIfInBounds p v) a.tmps, defers := [] } W)
    (hbody : ∀ (l : Nat) (pre : List α) (x : α) (W : World) (b : Nat) (Wp : World), w.heap.size ≤ l → (∃ r, W.heap[l]? = some (.loop r)) → I pre Wp → Wp.heap.size = b → Below b Wp W → Ok pre x W → w.heap.size ≤ b → b < W.heap.size → W.heap[b]? = some (ob x) → body.wpIn (F.inRound l) (n - 1 - 1) P (ownPostG w.heap.size (fun _ U => Kp Wp U) I Ix (pre ++ [x]) W) (a₁ x b) W)
    (hdone : ∀ (D : Nat) (xs : List α) (W : World), w.heap.size ≤ D → S xs → I xs W → W.heap[D]? = some (.deferred (some [])) → Q .normal { a with defers := { target := .collected D, args := #[] } :: a.defers } W)
    (hstop : ∀ (D : Nat) (c : Code) (pre : List α) (W : World), w.heap.size ≤ D → Sp pre → Ix c pre W → W.heap[D]? = some (.deferred (some [])) → c.wpIn F n P Q { a with defers := { target := .collected D, args := #[] } :: a.defers } W) :
    (Code.rangeFunc g ps assign body).wpIn F n P Q a w := by
  refine wpIn_rangeFunc fun fn hfn => ?_
  rw [hro]
  -- the loop's record, by its state and what is pending
  let rec' : LoopState → Option Code → Obj := fun st pe => .loop { state := st, pending := pe, fn, tmps := a.tmps, params := ps, assign, body, defers := w.heap.size }
  let V0 := w.alloc (.deferred (some []))
  let V1 := V0.alloc (rec' .ready none)
  have z0 : V0.heap.size = w.heap.size + 1 := by simp [V0]
  have l1 : V1.heap[w.heap.size + 1]? = some (rec' .ready none) := by
    have := World.alloc_heap_new V0 (rec' .ready none)
    rwa [z0] at this
  have d1 : V1.heap[w.heap.size]? = some (.deferred (some [])) := (Below.heap_alloc V0 _ _ (by omega)).trans (World.alloc_heap_new w _)
  refine ⟨w.heap.size + 1, [{ target := .collected w.heap.size, args := #[] }], V1, { target := .fn (.func gf) lb, args := #[.func (.yield (w.heap.size + 1)) #[] #[]] }, V1, gf, #[.func (.yield (w.heap.size + 1)) #[] #[]] ++ lb, V1, run_enterLoop_outer _ _ _ _ _, ?_, ?_, ?_, fun _ => h1, ?_⟩
  · simp only [resolve, hg]
    simp [go_sem]
  · intro f' hf'
    simp [Target.leads] at hf'
    subst hf'
    exact hFg
  · simp [invoke, go_sem, eg]
  refine (hseq (w.heap.size + 1) (fun pre W => I pre W ∧ W.heap[w.heap.size + 1]? = some (rec' .ready none) ∧ W.heap[w.heap.size]? = some (.deferred (some [])))
    (fun pre W => ∃ c, Ix c pre W ∧ W.heap[w.heap.size + 1]? = some (rec' .done (some c)) ∧ W.heap[w.heap.size]? = some (.deferred (some []))) V1 (((Below.refl _ w).alloc (Nat.le_refl _) _).alloc (by simp) _) ?fresh ?turned ?turnedx ?round
    ⟨hI.new _ _ _ (hI.new _ _ _ h0), l1, d1⟩).mono ?behind
  case fresh =>
    rintro pre V V' ⟨hi, hl, hd⟩ hb
    exact ⟨hI.far _ _ _ hi hb, (hb.block _ (Array.getElem?_eq_some_iff.1 hl).1).trans hl, (hb.block _ (Array.getElem?_eq_some_iff.1 hd).1).trans hd⟩
  case turned =>
    rintro pre V l' o o' ⟨hi, hl, hd⟩ hl' ho hc
    have : w.heap.size + 2 ≤ l' := by simpa [V1, V0] using hl'
    exact ⟨hI.turn _ _ _ _ _ hi (by omega) ho hc, (World.putObj_heap_other (by omega)).trans hl, (World.putObj_heap_other (by omega)).trans hd⟩
  case turnedx =>
    rintro pre V l' o o' ⟨c, hi, hl, hd⟩ hl' ho hc
    have : w.heap.size + 2 ≤ l' := by simpa [V1, V0] using hl'
    exact ⟨c, hIx c _ _ _ _ _ hi (by omega) ho hc, (World.putObj_heap_other (by omega)).trans hl, (World.putObj_heap_other (by omega)).trans hd⟩
  case round =>
    rintro pre x V ⟨hi, hl, hd⟩ hok
    have hlt := (Array.getElem?_eq_some_iff.1 hl).1
    refine ⟨fn, _, assign, body, run_yield (P := P) (args := encs x) hl (hps x), roundIn_of_wpIn hfn (hassign _ x V _ ?_)⟩
    have hb := World.alloc_heap_new V (ob x)
    have hds := (Array.getElem?_eq_some_iff.1 hd).1
    have hla := (Below.heap_alloc V (ob x) _ hlt).trans hl
    have hda := (Below.heap_alloc V (ob x) _ hds).trans hd
    have hoa := hOa _ _ _ hok
    have hWp : ∃ Wp, I pre Wp ∧ Kp V Wp ∧ Wp.heap.size = V.heap.size ∧ Below V.heap.size Wp ((V.alloc (ob x)).putObj (w.heap.size + 1) (rec' .busy none)) := by
      refine ⟨V.putObj (w.heap.size + 1) (rec' .busy none), hI.turn _ _ _ _ _ hi (by omega) hl rfl, hKb _ _ _ _ (by omega) hl rfl rfl, by simp [World.putObj], rfl, rfl, rfl, by simp [World.putObj], fun k hk => ?_⟩
      by_cases hkl : k = w.heap.size + 1
      · subst hkl
        rw [World.putObj_heap_same (by simp; omega), World.putObj_heap_same hlt]
      · rw [World.putObj_heap_other hkl, World.putObj_heap_other hkl]
        exact Below.heap_alloc V (ob x) _ hk
    have hsz : V.heap.size < (V.alloc (ob x)).heap.size := by simp
    have kf0 : KeepsFrom V1.heap.size V ((V.alloc (ob x)).putObj (w.heap.size + 1) (rec' .busy none)) := ((KeepsOthers.alloc V (ob x)).from _).trans (keepsFrom_put (by simp [V1, V0]) _ _)
    have hVs : w.heap.size + 1 < V.heap.size := hlt
    generalize V.heap.size = b at hb hsz hVs hWp ⊢
    generalize V.alloc (ob x) = Va at *
    have hlt := (Array.getElem?_eq_some_iff.1 hla).1
    refine ⟨_, run_beginRound hla rfl, ?_⟩
    have hb2 : (Va.putObj (w.heap.size + 1) (rec' .busy none)).heap[b]? = some (ob x) := (World.putObj_heap_other (by omega)).trans hb
    have hs2 : b < (Va.putObj (w.heap.size + 1) (rec' .busy none)).heap.size := by simpa [World.putObj] using hsz
    have l2 : (Va.putObj (w.heap.size + 1) (rec' .busy none)).heap[w.heap.size + 1]? = some (rec' .busy none) := World.putObj_heap_same hlt
    have d2 : (Va.putObj (w.heap.size + 1) (rec' .busy none)).heap[w.heap.size]? = some (.deferred (some [])) := (World.putObj_heap_other (by omega)).trans hda
    obtain ⟨Wp, hWpI, hWpK, hWps, hWpB⟩ := hWp
    refine wpIn_mono (hbody _ pre x _ b Wp (by omega) ⟨_, l2⟩ hWpI hWps hWpB (hOk _ _ _ _ _ _ hoa (by omega) hla rfl) (by omega) hs2 hb2) ?_
    -- the round's end, however it is left
    have fin : ∀ (j : Option Code) (U : World), KeepsFrom w.heap.size (Va.putObj (w.heap.size + 1) (rec' .busy none)) U →
        (Instr.endRound (w.heap.size + 1) j).run P U = .ok (.bool j.isNone) (U.putObj (w.heap.size + 1) (rec' (if j.isNone then .ready else .done) j)) ∧ U.heap[w.heap.size + 1]? = some (rec' .busy none) ∧
        (U.putObj (w.heap.size + 1) (rec' (if j.isNone then .ready else .done) j)).heap[w.heap.size + 1]? = some (rec' (if j.isNone then .ready else .done) j) ∧
        (U.putObj (w.heap.size + 1) (rec' (if j.isNone then .ready else .done) j)).heap[w.heap.size]? = some (.deferred (some [])) := fun j U hk => by
      have l3 := hk.same _ _ (by omega) l2 rfl
      exact ⟨run_endRound (P := P) j l3, l3, World.putObj_heap_same (Array.getElem?_eq_some_iff.1 l3).1, (World.putObj_heap_other (by omega)).trans (hk.same _ _ (Nat.le_refl _) d2 rfl)⟩
    have out : ∀ (c : Code) (U : World), KeepsFrom w.heap.size (Va.putObj (w.heap.size + 1) (rec' .busy none)) U → Ix c (pre ++ [x]) U → ∃ r U', (Instr.endRound (w.heap.size + 1) (some c)).run P U = .ok r U' ∧ ((Ending.returned r = .returned (.bool true) ∧ (I (pre ++ [x]) U' ∧ U'.heap[w.heap.size + 1]? = some (rec' .ready none) ∧ U'.heap[w.heap.size]? = some (.deferred (some []))) ∧ Kp V U' ∧ KeepsFrom V1.heap.size V U') ∨ (Ending.returned r = .returned (.bool false) ∧ (∃ c, Ix c (pre ++ [x]) U' ∧ U'.heap[w.heap.size + 1]? = some (rec' .done (some c)) ∧ U'.heap[w.heap.size]? = some (.deferred (some []))) ∧ KeepsFrom V1.heap.size V U')) := fun c U hk hx => by
      obtain ⟨r1, r2, r3, r4⟩ := fin (some c) U hk
      exact ⟨_, _, r1, .inr ⟨rfl, ⟨c, hIx c _ _ _ _ _ hx (by omega) r2 rfl, r3, r4⟩, (kf0.trans (keepsFrom_le (by simp [V1, V0]; omega) hk)).trans (keepsFrom_put (by simp [V1, V0]) _ _)⟩⟩
    rintro e a3 U hp
    cases e with
    | normal =>
      obtain ⟨hk, hq, hx⟩ := hp
      obtain ⟨r1, r2, r3, r4⟩ := fin none U hk
      exact ⟨_, _, r1, .inl ⟨rfl, ⟨hI.turn _ _ _ _ _ hx (by omega) r2 rfl, r3, r4⟩, hKt (hKt hWpK hq) (hKb _ _ _ _ (by omega) r2 rfl rfl), (kf0.trans (keepsFrom_le (by simp [V1, V0]; omega) hk)).trans (keepsFrom_put (by simp [V1, V0]) _ _)⟩⟩
    | ret => exact out .ret U hp.1 hp.2
    | exit id => exact out (.exit id) U hp.1 hp.2
    | goto t => exact out (.goto t) U hp.1 hp.2
    | panic ch => exact hp.elim
    | outgrown => exact hp.elim
  case behind =>
    rintro e U ⟨⟨v, rfl⟩, ⟨xs, hS, hi, hl, hd⟩ | ⟨pre, hSp, c, hi, hl, hd⟩⟩
    · exact ⟨none, _, run_endLoop (P := P) hl (by simp), hdone _ xs _ (Nat.le_refl _) hS (hI.turn _ _ _ _ _ hi (by omega) hl rfl) ((World.putObj_heap_other (by omega)).trans hd)⟩
    · exact ⟨some c, _, run_endLoop (P := P) hl (by simp), hstop _ c pre _ (Nat.le_refl _) hSp (hIx c _ _ _ _ _ hi (by omega) hl rfl) ((World.putObj_heap_other (by omega)).trans hd)⟩

theorem range_okN {F : Fence} {n : Nat} {P : Program} {α : Type} {g : Operand} {ps : Array Tmp} {assign body : Code} {Q : Exit → Act → World → Prop} {a : Act} {w : World}
    {l₀ : Nat} {r₀ : Loop} (hro : F.round = some l₀) (hl₀ : w.heap[l₀]? = some (.loop r₀)) (h1 : 1 ≤ n) {gf : Nat} {lb : Array Value} (hg : a.eval g = .func (.func gf) #[] lb) (hFg : F.fn gf) (eg : ∀ args w, (callFunc gf args).run P w = .ok (.enter gf args) w)
    {encs : α → Array Value} {Ok : List α → α → World → Prop} {Kp : World → World → Prop} {S Sp : List α → Prop} (hseq : SeqOkT F (n - 1) P gf lb encs Ok Kp S Sp w)
    (hOk : ∀ pre x W l o o', Ok pre x W → w.heap.size ≤ l → W.heap[l]? = some o → o.isCells = false → Ok pre x (W.putObj l o'))
    (hKt : ∀ {A B C : World}, Kp A B → Kp B C → Kp A C) (hKb : ∀ (W : World) (l : Nat) (o o' : Obj), w.heap.size ≤ l → W.heap[l]? = some o → o.isCells = false → o.isWalk = false → Kp W (W.putObj l o')) (hps : ∀ x, (encs x).size = ps.size)
    (I : List α → World → Prop) (Ix : Code → List α → World → Prop) (hI : Abide4 w.heap.size I) (hIx : ∀ c pre W l o o', Ix c pre W → w.heap.size ≤ l → W.heap[l]? = some o → o.isCells = false → Ix c pre (W.putObj l o')) (h0 : I [] w) (ob : α → Obj) (hKa : ∀ (W : World) (x : α), w.heap.size ≤ W.heap.size → Kp W (W.alloc (ob x))) (hOa : ∀ pre x W, Ok pre x W → Ok pre x (W.alloc (ob x))) (a₁ : α → Nat → Act)
    (hassign : ∀ (l : Nat) (x : α) (W : World) (K : Act → World → Prop), K (a₁ x W.heap.size) (W.alloc (ob x)) → assign.wpIn (F.inRound l) (n - 1 - 1) P (Exit.then K (fun _ _ _ => False)) { tmps := (ps.zip (encs x)).foldl (fun t (p, v) => t.setIfInBounds p v) a.tmps, defers := [] } W)
    (hbody : ∀ (l : Nat) (pre : List α) (x : α) (W : World) (b : Nat), I pre W → Ok pre x W → w.heap.size ≤ b → b < W.heap.size → W.heap[b]? = some (ob x) → body.wpIn (F.inRound l) (n - 1 - 1) P (ownPostG w.heap.size Kp I Ix (pre ++ [x]) W) (a₁ x b) W)
    (hdone : ∀ (xs : List α) (W : World), S xs → I xs W → Q .normal a W)
    (hstop : ∀ (c : Code) (pre : List α) (W : World), Sp pre → Ix c pre W → c.wpIn F n P Q a W) :
    (Code.rangeFunc g ps assign body).wpIn F n P Q a w := by
  refine wpIn_rangeFunc fun fn hfn => ?_
  rw [hro]
  -- the loop's record, by its state and what is pending
  let rec' : LoopState → Option Code → Obj := fun st pe => .loop { state := st, pending := pe, fn, tmps := a.tmps, params := ps, assign, body, defers := r₀.defers }
  let V1 := w.alloc (rec' .ready none)
  have l1 : V1.heap[w.heap.size]? = some (rec' .ready none) := World.alloc_heap_new w _
  refine ⟨w.heap.size, [], V1, { target := .fn (.func gf) lb, args := #[.func (.yield w.heap.size) #[] #[]] }, V1, gf, #[.func (.yield w.heap.size) #[] #[]] ++ lb, V1, run_enterLoop_inner hl₀ _ _ _ _ _, ?_, ?_, ?_, fun _ => h1, ?_⟩
  · simp only [resolve, hg]
    simp [go_sem]
  · intro f' hf'
    simp [Target.leads] at hf'
    subst hf'
    exact hFg
  · simp [invoke, go_sem, eg]
  refine (hseq w.heap.size (fun pre W => I pre W ∧ W.heap[w.heap.size]? = some (rec' .ready none))
    (fun pre W => ∃ c, Ix c pre W ∧ W.heap[w.heap.size]? = some (rec' .done (some c))) V1 ((Below.refl _ w).alloc (Nat.le_refl _) _) ?fresh ?turned ?turnedx ?round
    ⟨hI.new _ _ _ h0, l1⟩).mono ?behind
  case fresh =>
    rintro pre V V' ⟨hi, hl⟩ hb
    exact ⟨hI.far _ _ _ hi hb, (hb.block _ (Array.getElem?_eq_some_iff.1 hl).1).trans hl⟩
  case turned =>
    rintro pre V l' o o' ⟨hi, hl⟩ hl' ho hc
    have : w.heap.size + 1 ≤ l' := by simpa [V1] using hl'
    exact ⟨hI.turn _ _ _ _ _ hi (by omega) ho hc, (World.putObj_heap_other (by omega)).trans hl⟩
  case turnedx =>
    rintro pre V l' o o' ⟨c, hi, hl⟩ hl' ho hc
    have : w.heap.size + 1 ≤ l' := by simpa [V1] using hl'
    exact ⟨c, hIx c _ _ _ _ _ hi (by omega) ho hc, (World.putObj_heap_other (by omega)).trans hl⟩
  case round =>
    rintro pre x V ⟨hi, hl⟩ hok
    have hlt := (Array.getElem?_eq_some_iff.1 hl).1
    refine ⟨fn, _, assign, body, run_yield (P := P) (args := encs x) hl (hps x), roundIn_of_wpIn hfn (hassign _ x V _ ?_)⟩
    have hb := World.alloc_heap_new V (ob x)
    have hla := (Below.heap_alloc V (ob x) _ hlt).trans hl
    have hia := hI.new _ _ (ob x) hi
    have hoa := hOa _ _ _ hok
    have ka := hKa V x (by omega)
    have hsz : V.heap.size < (V.alloc (ob x)).heap.size := by simp
    have kf0 : KeepsFrom V1.heap.size V ((V.alloc (ob x)).putObj (w.heap.size) (rec' .busy none)) := ((KeepsOthers.alloc V (ob x)).from _).trans (keepsFrom_put (by simp [V1]) _ _)
    have hVs : w.heap.size < V.heap.size := hlt
    generalize V.heap.size = b at hb hsz hVs ⊢
    generalize V.alloc (ob x) = Va at *
    have hlt := (Array.getElem?_eq_some_iff.1 hla).1
    refine ⟨_, run_beginRound hla rfl, ?_⟩
    have hb2 : (Va.putObj w.heap.size (rec' .busy none)).heap[b]? = some (ob x) := (World.putObj_heap_other (by omega)).trans hb
    have hs2 : b < (Va.putObj w.heap.size (rec' .busy none)).heap.size := by simpa [World.putObj] using hsz
    have l2 : (Va.putObj w.heap.size (rec' .busy none)).heap[w.heap.size]? = some (rec' .busy none) := World.putObj_heap_same hlt
    have k2 : Kp Va (Va.putObj w.heap.size (rec' .busy none)) := hKb _ _ _ _ (by omega) hla rfl rfl
    refine wpIn_mono (hbody _ pre x _ b (hI.turn _ _ _ _ _ hia (by omega) hla rfl) (hOk _ _ _ _ _ _ hoa (by omega) hla rfl) (by omega) hs2 hb2) ?_
    -- the round's end, however it is left
    have fin : ∀ (j : Option Code) (U : World), KeepsFrom w.heap.size (Va.putObj w.heap.size (rec' .busy none)) U →
        (Instr.endRound w.heap.size j).run P U = .ok (.bool j.isNone) (U.putObj w.heap.size (rec' (if j.isNone then .ready else .done) j)) ∧ U.heap[w.heap.size]? = some (rec' .busy none) ∧
        (U.putObj w.heap.size (rec' (if j.isNone then .ready else .done) j)).heap[w.heap.size]? = some (rec' (if j.isNone then .ready else .done) j) := fun j U hk => by
      have l3 := hk.same _ _ (by omega) l2 rfl
      exact ⟨run_endRound (P := P) j l3, l3, World.putObj_heap_same (Array.getElem?_eq_some_iff.1 l3).1⟩
    have out : ∀ (c : Code) (U : World), KeepsFrom w.heap.size (Va.putObj w.heap.size (rec' .busy none)) U → Ix c (pre ++ [x]) U → ∃ r U', (Instr.endRound w.heap.size (some c)).run P U = .ok r U' ∧ ((Ending.returned r = .returned (.bool true) ∧ (I (pre ++ [x]) U' ∧ U'.heap[w.heap.size]? = some (rec' .ready none)) ∧ Kp V U' ∧ KeepsFrom V1.heap.size V U') ∨ (Ending.returned r = .returned (.bool false) ∧ (∃ c, Ix c (pre ++ [x]) U' ∧ U'.heap[w.heap.size]? = some (rec' .done (some c))) ∧ KeepsFrom V1.heap.size V U')) := fun c U hk hx => by
      obtain ⟨r1, r2, r3⟩ := fin (some c) U hk
      exact ⟨_, _, r1, .inr ⟨rfl, ⟨c, hIx c _ _ _ _ _ hx (by omega) r2 rfl, r3⟩, (kf0.trans (keepsFrom_le (by simp [V1]) hk)).trans (keepsFrom_put (by simp [V1]) _ _)⟩⟩
    rintro e a3 U hp
    cases e with
    | normal =>
      obtain ⟨hk, hq, hx⟩ := hp
      obtain ⟨r1, r2, r3⟩ := fin none U hk
      exact ⟨_, _, r1, .inl ⟨rfl, ⟨hI.turn _ _ _ _ _ hx (by omega) r2 rfl, r3⟩, hKt (hKt (hKt ka k2) hq) (hKb _ _ _ _ (by omega) r2 rfl rfl), (kf0.trans (keepsFrom_le (by simp [V1]) hk)).trans (keepsFrom_put (by simp [V1]) _ _)⟩⟩
    | ret => exact out .ret U hp.1 hp.2
    | exit id => exact out (.exit id) U hp.1 hp.2
    | goto t => exact out (.goto t) U hp.1 hp.2
    | panic ch => exact hp.elim
    | outgrown => exact hp.elim
  case behind =>
    rintro e U ⟨⟨v, rfl⟩, ⟨xs, hS, hi, hl⟩ | ⟨pre, hSp, c, hi, hl⟩⟩
    · exact ⟨none, _, run_endLoop (P := P) hl (by simp), hdone xs _ hS (hI.turn _ _ _ _ _ hi (by omega) hl rfl)⟩
    · exact ⟨some c, _, run_endLoop (P := P) hl (by simp), hstop c pre _ hSp (hIx c _ _ _ _ _ hi (by omega) hl rfl)⟩


/-- A round's room does not matter where calls may nest as they like. -/
theorem roundIn_wide {F : Fence} {m m' : Nat} {P : Program} {l : Nat} {f : FuncId} {tmps : Array Value} {assign body : Code} {w : World} {R : Ending → World → Prop} (l' : Nat) (hF : F = Fence.wide)
    (h : RoundIn F m P l f tmps assign body w R) : RoundIn (Fence.wide.inRound l') m' P l f tmps assign body w R := by
  subst hF
  exact ⟨trivial, fun c cs _ => h.2 c cs (fun d hd => by cases hd)⟩
theorem roundIn_out {m m' : Nat} {P : Program} {l : Nat} {f : FuncId} {tmps : Array Value} {assign body : Code} {w : World} {R : Ending → World → Prop} (l' : Nat)
    (h : RoundIn (Fence.wide.inRound l') m P l f tmps assign body w R) : RoundIn Fence.wide m' P l f tmps assign body w R :=
  ⟨trivial, fun c cs _ => h.2 c cs (fun d hd => by cases hd)⟩
theorem SeqOkT.inRound {α : Type} {n : Nat} {P : Program} {g : Nat} {lb : Array Value} {encs : α → Array Value} {Ok : List α → α → World → Prop} {Kp : World → World → Prop} {S Sp : List α → Prop} {w : World} (l' : Nat) (h : SeqOkT Fence.wide n P g lb encs Ok Kp S Sp w) : SeqOkT (Fence.wide.inRound l') n P g lb encs Ok Kp S Sp w :=
  fun l J Jx W hW hN ht htx hY h0 => CallsIn.inRound l' (h l J Jx W hW hN ht htx (fun pre x V hj ho => by
    obtain ⟨fn, tmps, assign, body, hy, hr⟩ := hY pre x V hj ho
    exact ⟨fn, tmps, assign, body, hy, roundIn_out l' hr⟩) h0)
end Go.Proofs.Ythgoopdekllanaa
