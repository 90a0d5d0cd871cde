/- A range over a function as in RangeOk, for an iterator whose regions draw their order: what is kept abides a draw, too. Nothing of the program is imported. -/
import Derived.Test.YthgoopdekllanaaRangeOk
namespace Go.Proofs.Ythgoopdekllanaa
open Go.RowKit Go.Shelf

def SeqOkD {α : Type} (F : Fence) (n : Nat) (P : Program) (g : Nat) (lb : Array Value) (encs : α → Array Value) (Ok : List α → α → World → Prop) (Kp : World → World → Prop) (S Sp : List α → Prop) (w : World) : Prop :=
  ∀ (l : Nat) (J Jx : List α → World → Prop) (W : World), Below w.heap.size w W → (∀ pre V o, J pre V → J pre (V.alloc o)) → (∀ pre V, J pre V → J pre V.drew) →
    (∀ pre x V, J pre V → Ok pre x V → YieldAt F (n - 1) P l (encs x) V fun e V' => (e = .returned (.bool true) ∧ J (pre ++ [x]) V' ∧ Kp V V') ∨ (e = .returned (.bool false) ∧ Jx (pre ++ [x]) V')) →
    J [] W → CallsIn F n P g (#[.func (.yield l) #[] #[]] ++ lb) W fun e V => (∃ v, e = .returned v) ∧ ((∃ xs, S xs ∧ J xs V) ∨ (∃ pre, Sp pre ∧ Jx pre V))

theorem range_okD {F : Fence} {n : Nat} {P : Program} {α : Type} {g : Operand} {ps : Array Tmp} {assign body : Code} {Q : Exit → Act → World → Prop} {a : Act} {w : World}
    (hro : F.round = none) (h1 : 1 ≤ n) {gf : Nat} {lb : Array Value} (hg : a.eval g = .func (.func gf) #[] lb) (hFg : F.fn gf) (eg : ∀ args w, (callFunc gf args).run P w = .ok (.enter gf args) w)
    {encs : α → Array Value} {Ok : List α → α → World → Prop} {Kp : World → World → Prop} {S Sp : List α → Prop} (hseq : SeqOkD F (n - 1) P gf lb encs Ok Kp S Sp w)
    (hOk : ∀ pre x W l o o', Ok pre x W → w.heap.size ≤ l → W.heap[l]? = some o → o.isCells = false → Ok pre x (W.putObj l o'))
    (hKt : ∀ {A B C : World}, Kp A B → Kp B C → Kp A C) (hKb : ∀ (W : World) (l : Nat) (o o' : Obj), w.heap.size ≤ l → W.heap[l]? = some o → o.isCells = false → o.isWalk = false → Kp W (W.putObj l o')) (hps : ∀ x, (encs x).size = ps.size)
    (I : List α → World → Prop) (Ix : Code → List α → World → Prop) (hI : Abide3 w.heap.size I) (hIx : ∀ c, Abide3 w.heap.size (Ix c)) (hID : ∀ pre W, I pre W → I pre W.drew) (h0 : I [] w) (ob : α → Obj) (hKa : ∀ (W : World) (x : α), Kp W (W.alloc (ob x))) (hOa : ∀ pre x W, Ok pre x W → Ok pre x (W.alloc (ob x))) (a₁ : α → Nat → Act)
    (hassign : ∀ (l : Nat) (x : α) (W : World) (K : Act → World → Prop), K (a₁ x W.heap.size) (W.alloc (ob x)) → assign.wpIn (F.inRound l) (n - 1 - 1) P (Exit.then K (fun _ _ _ => False)) { tmps := (ps.zip (encs x)).foldl (fun t (p, v) => t.setIfInBounds p v) a.tmps, defers := [] } W)
    (hbody : ∀ (l : Nat) (pre : List α) (x : α) (W : World) (b : Nat), I pre W → Ok pre x W → w.heap.size ≤ b → b < W.heap.size → W.heap[b]? = some (ob x) → body.wpIn (F.inRound l) (n - 1 - 1) P (ownPostG w.heap.size Kp I Ix (pre ++ [x]) W) (a₁ x b) W)
    (hdone : ∀ (D : Nat) (xs : List α) (W : World), w.heap.size ≤ D → S xs → I xs W → W.heap[D]? = some (.deferred (some [])) → Q .normal { a with defers := { target := .collected D, args := #[] } :: a.defers } W)
    (hstop : ∀ (D : Nat) (c : Code) (pre : List α) (W : World), w.heap.size ≤ D → Sp pre → Ix c pre W → W.heap[D]? = some (.deferred (some [])) → c.wpIn F n P Q { a with defers := { target := .collected D, args := #[] } :: a.defers } W) :
    (Code.rangeFunc g ps assign body).wpIn F n P Q a w := by
  refine wpIn_rangeFunc fun fn hfn => ?_
  rw [hro]
  -- the loop's record, by its state and what is pending
  let rec' : LoopState → Option Code → Obj := fun st pe => .loop { state := st, pending := pe, fn, tmps := a.tmps, params := ps, assign, body, defers := w.heap.size }
  let V0 := w.alloc (.deferred (some []))
  let V1 := V0.alloc (rec' .ready none)
  have z0 : V0.heap.size = w.heap.size + 1 := by simp [V0]
  have l1 : V1.heap[w.heap.size + 1]? = some (rec' .ready none) := by
    have := World.alloc_heap_new V0 (rec' .ready none)
    rwa [z0] at this
  have d1 : V1.heap[w.heap.size]? = some (.deferred (some [])) := (Below.heap_alloc V0 _ _ (by omega)).trans (World.alloc_heap_new w _)
  refine ⟨w.heap.size + 1, [{ target := .collected w.heap.size, args := #[] }], V1, { target := .fn (.func gf) lb, args := #[.func (.yield (w.heap.size + 1)) #[] #[]] }, V1, gf, #[.func (.yield (w.heap.size + 1)) #[] #[]] ++ lb, V1, run_enterLoop_outer _ _ _ _ _, ?_, ?_, ?_, fun _ => h1, ?_⟩
  · simp only [resolve, hg]
    simp [go_sem]
  · intro f' hf'
    simp [Target.leads] at hf'
    subst hf'
    exact hFg
  · simp [invoke, go_sem, eg]
  refine (hseq (w.heap.size + 1) (fun pre W => I pre W ∧ W.heap[w.heap.size + 1]? = some (rec' .ready none) ∧ W.heap[w.heap.size]? = some (.deferred (some [])))
    (fun pre W => ∃ c, Ix c pre W ∧ W.heap[w.heap.size + 1]? = some (rec' .done (some c)) ∧ W.heap[w.heap.size]? = some (.deferred (some []))) V1 (((Below.refl _ w).alloc (Nat.le_refl _) _).alloc (by simp) _) ?fresh ?drawn ?round
    ⟨hI.new _ _ _ (hI.new _ _ _ h0), l1, d1⟩).mono ?behind
  case fresh =>
    rintro pre V o ⟨hi, hl, hd⟩
    exact ⟨hI.new _ _ _ hi, (Below.heap_alloc _ _ _ (Array.getElem?_eq_some_iff.1 hl).1).trans hl, (Below.heap_alloc _ _ _ (Array.getElem?_eq_some_iff.1 hd).1).trans hd⟩
  case drawn =>
    rintro pre V ⟨hi, hl, hd⟩
    exact ⟨hID _ _ hi, hl, hd⟩
  case round =>
    rintro pre x V ⟨hi, hl, hd⟩ hok
    have hlt := (Array.getElem?_eq_some_iff.1 hl).1
    refine ⟨fn, _, assign, body, run_yield (P := P) (args := encs x) hl (hps x), roundIn_of_wpIn hfn (hassign _ x V _ ?_)⟩
    have hb := World.alloc_heap_new V (ob x)
    have hds := (Array.getElem?_eq_some_iff.1 hd).1
    have hla := (Below.heap_alloc V (ob x) _ hlt).trans hl
    have hda := (Below.heap_alloc V (ob x) _ hds).trans hd
    have hia := hI.new _ _ (ob x) hi
    have hoa := hOa _ _ _ hok
    have ka := hKa V x
    have hsz : V.heap.size < (V.alloc (ob x)).heap.size := by simp
    have hVs : w.heap.size + 1 < V.heap.size := hlt
    generalize V.heap.size = b at hb hsz hVs ⊢
    generalize V.alloc (ob x) = Va at *
    have hlt := (Array.getElem?_eq_some_iff.1 hla).1
    refine ⟨_, run_beginRound hla rfl, ?_⟩
    have hb2 : (Va.putObj (w.heap.size + 1) (rec' .busy none)).heap[b]? = some (ob x) := (World.putObj_heap_other (by omega)).trans hb
    have hs2 : b < (Va.putObj (w.heap.size + 1) (rec' .busy none)).heap.size := by simpa [World.putObj] using hsz
    have l2 : (Va.putObj (w.heap.size + 1) (rec' .busy none)).heap[w.heap.size + 1]? = some (rec' .busy none) := World.putObj_heap_same hlt
    have d2 : (Va.putObj (w.heap.size + 1) (rec' .busy none)).heap[w.heap.size]? = some (.deferred (some [])) := (World.putObj_heap_other (by omega)).trans hda
    have k2 : Kp Va (Va.putObj (w.heap.size + 1) (rec' .busy none)) := hKb _ _ _ _ (by omega) hla rfl rfl
    refine wpIn_mono (hbody _ pre x _ b (hI.turn _ _ _ _ _ hia (by omega) hla rfl) (hOk _ _ _ _ _ _ hoa (by omega) hla rfl) (by omega) hs2 hb2) ?_
    -- the round's end, however it is left
    have fin : ∀ (j : Option Code) (U : World), KeepsFrom w.heap.size (Va.putObj (w.heap.size + 1) (rec' .busy none)) U →
        (Instr.endRound (w.heap.size + 1) j).run P U = .ok (.bool j.isNone) (U.putObj (w.heap.size + 1) (rec' (if j.isNone then .ready else .done) j)) ∧ U.heap[w.heap.size + 1]? = some (rec' .busy none) ∧
        (U.putObj (w.heap.size + 1) (rec' (if j.isNone then .ready else .done) j)).heap[w.heap.size + 1]? = some (rec' (if j.isNone then .ready else .done) j) ∧
        (U.putObj (w.heap.size + 1) (rec' (if j.isNone then .ready else .done) j)).heap[w.heap.size]? = some (.deferred (some [])) := fun j U hk => by
      have l3 := hk.same _ _ (by omega) l2 rfl
      exact ⟨run_endRound (P := P) j l3, l3, World.putObj_heap_same (Array.getElem?_eq_some_iff.1 l3).1, (World.putObj_heap_other (by omega)).trans (hk.same _ _ (Nat.le_refl _) d2 rfl)⟩
    have out : ∀ (c : Code) (U : World), KeepsFrom w.heap.size (Va.putObj (w.heap.size + 1) (rec' .busy none)) U → Ix c (pre ++ [x]) U → ∃ r U', (Instr.endRound (w.heap.size + 1) (some c)).run P U = .ok r U' ∧ ((Ending.returned r = .returned (.bool true) ∧ (I (pre ++ [x]) U' ∧ U'.heap[w.heap.size + 1]? = some (rec' .ready none) ∧ U'.heap[w.heap.size]? = some (.deferred (some []))) ∧ Kp V U') ∨ (Ending.returned r = .returned (.bool false) ∧ ∃ c, Ix c (pre ++ [x]) U' ∧ U'.heap[w.heap.size + 1]? = some (rec' .done (some c)) ∧ U'.heap[w.heap.size]? = some (.deferred (some [])))) := fun c U hk hx => by
      obtain ⟨r1, r2, r3, r4⟩ := fin (some c) U hk
      exact ⟨_, _, r1, .inr ⟨rfl, c, (hIx c).turn _ _ _ _ _ hx (by omega) r2 rfl, r3, r4⟩⟩
    rintro e a3 U hp
    cases e with
    | normal =>
      obtain ⟨hk, hq, hx⟩ := hp
      obtain ⟨r1, r2, r3, r4⟩ := fin none U hk
      exact ⟨_, _, r1, .inl ⟨rfl, ⟨hI.turn _ _ _ _ _ hx (by omega) r2 rfl, r3, r4⟩, hKt (hKt (hKt ka k2) hq) (hKb _ _ _ _ (by omega) r2 rfl rfl)⟩⟩
    | ret => exact out .ret U hp.1 hp.2
    | exit id => exact out (.exit id) U hp.1 hp.2
    | goto t => exact out (.goto t) U hp.1 hp.2
    | panic ch => exact hp.elim
    | outgrown => exact hp.elim
  case behind =>
    rintro e U ⟨⟨v, rfl⟩, ⟨xs, hS, hi, hl, hd⟩ | ⟨pre, hSp, c, hi, hl, hd⟩⟩
    · exact ⟨none, _, run_endLoop (P := P) hl (by simp), hdone _ xs _ (Nat.le_refl _) hS (hI.turn _ _ _ _ _ hi (by omega) hl rfl) ((World.putObj_heap_other (by omega)).trans hd)⟩
    · exact ⟨some c, _, run_endLoop (P := P) hl (by simp), hstop _ c pre _ (Nat.le_refl _) hSp ((hIx c).turn _ _ _ _ _ hi (by omega) hl rfl) ((World.putObj_heap_other (by omega)).trans hd)⟩

end Go.Proofs.Ythgoopdekllanaa
