/- Package tuple: Sorted. -/
import Derived.Test.YtpbheonapgckfaaDoorTupX
import Derived.Test.YtpbheonapgckfaaDoorShelf
import Derived.Lib.QuietBelow
namespace Go.Proofs.YtpbheonapgckfaaDoor
open Go.RowKit Go.Shelf
open SumM

/-- A tuple whose numbers fit. -/
abbrev OTup := { u : Tup // u.ok }
theorem tup0_ok : Tup.ok tup0 := ⟨by decide, by decide, by decide, by decide⟩
instance : Inhabited OTup := ⟨⟨tup0, tup0_ok⟩⟩
def encO (x : OTup) : List Value := tupC x.1
def cfO (x y : OTup) : Int := cmpT x.1 y.1

theorem swoO : Go.Sort.SWO (ltOf cfO) where
  irrefl x := by
    have := (cmpT_zero x.2 x.2).2 rfl
    simp [ltOf, cfO, this]
  trans x y z h1 h2 := by
    simp only [ltOf, cfO] at *
    exact decide_eq_true (cmpT_trans _ _ _ (of_decide_eq_true h1) (of_decide_eq_true h2))
  ntrans x y z h1 h2 := by
    simp only [ltOf, cfO] at *
    exact decide_eq_false (leT_iff.1 (leT_trans (leT_iff.2 (of_decide_eq_false h2)) (leT_iff.2 (of_decide_eq_false h1))))

theorem grow_of_below {w w' : World} (h : Below w.heap.size w w') (hd : w'.drawn = w.drawn) : ∃ os, w' = Go.Sort.grow (w.drewN 0) os := by
  obtain ⟨p, hp⟩ := regrown_of_below h
  refine ⟨p.os, ?_⟩
  have e : p.d = w.drawn := by
    rw [← hd, hp]
    rfl
  rw [hp, e]
  rfl

theorem cmpLaysO (blk off size : Nat) (w : World) : CmpLays Tryd.prog 13 #[] encO 4 cfO blk off size w := fun m os dk _ x y => by
  obtain ⟨⟨x1, x2, x3, x4⟩, hx⟩ := x
  obtain ⟨⟨y1, y2, y3, y4⟩, hy⟩ := y
  refine (tCmp_d x1 x2 x3 x4 y1 y2 y3 y4 hx hy _).mono ?_
  rintro e w' ⟨rfl, h, hd⟩
  obtain ⟨os', hos⟩ := grow_of_below h hd
  exact ⟨rfl, 0, os', hos⟩

/-- The tuples of a list, as such that fit. -/
def packO (us : List Tup) (h : ∀ u ∈ us, Tup.ok u) : List OTup := us.pmap (fun u hu => ⟨u, hu⟩) h
theorem packO_val (us : List Tup) (h : ∀ u ∈ us, Tup.ok u) : (packO us h).map (·.1) = us := by
  simp [packO, List.map_pmap]
theorem packO_length (us : List Tup) (h : ∀ u ∈ us, Tup.ok u) : (packO us h).length = us.length := by simp [packO]

theorem at_val (l : List OTup) (j : Nat) : ((l.toArray)[j]!).1 = (l.map (·.1))[j]?.getD tup0 := by
  rcases Nat.lt_or_ge j l.length with h | h
  · rw [getElem!_pos _ j (by simpa using h)]
    simp [h]
  · rw [getElem!_neg _ j (by simpa using h)]
    simp [h]
    rfl

theorem flatK_get (l : List OTup) (j : Nat) (hj : j < l.length * 4) : ∃ v, (tupC ((l.map (·.1))[j / 4]?.getD tup0))[j % 4]? = some v ∧ (Go.Sort.flatK encO 4 l.toArray)[j]! = v := by
  rw [Go.Sort.get_flatK _ _ _ _ (by simpa using hj)]
  unfold encO
  rw [at_val]
  have h4 : j % 4 < (tupC ((l.map (·.1))[j / 4]?.getD tup0)).length := by
    show j % 4 < 4
    omega
  exact ⟨_, List.getElem?_eq_getElem h4, getElem!_pos (tupC ((l.map (fun x : OTup => x.1))[j / 4]?.getD tup0)) (j % 4) h4⟩

theorem holds_of_own {w : World} {base g len cap : Nat} {e : TypeId} {us : List Tup} (ho : ∀ u ∈ us, Tup.ok u) (hl : us.length = len) (h : w.ownsRow base e 4 (.slice (some ⟨g, 0, none⟩) len cap) len (flatT us)) : Go.Sort.HoldsK encO 4 w g 0 (packO us ho).toArray := by
  intro j hj
  have hj' : j < us.length * 4 := by simpa [packO_length] using hj
  obtain ⟨v, hv, hf⟩ := flatK_get (packO us ho) j (by rw [packO_length]; exact hj')
  rw [packO_val] at hv
  rw [hf]
  refine ⟨?_, ?_⟩
  · have := h.cells (g := g) rfl j v (by
      have e : j = (j / 4) * 4 + j % 4 := by omega
      rw [e, flatT_get us (j / 4) (j % 4) (by omega) (by omega)]
      exact hv)
    rwa [addr_add] at this
  · rcases h.2 with ⟨h0, _⟩ | ⟨g', cap', cur, hv', _, hb, _⟩
    · cases h0
    · injection hv' with h1
      injection h1 with h1
      injection h1 with h1
      subst h1
      simp [World.frozen?, hb]

theorem trow_of_holds {w : World} {g : Nat} (l : List OTup) (hg : g < w.heap.size) (h : Go.Sort.HoldsK encO 4 w g 0 l.toArray) : TRow w.heap.size w (some ⟨g, 0, none⟩) (l.map (·.1)) := by
  refine ⟨fun u hu => ?_, fun _ => ⟨g, 0, rfl, hg, fun j hj => ?_⟩⟩
  · obtain ⟨x, _, rfl⟩ := List.mem_map.1 hu
    exact x.2
  · have hj' : j < l.length := by simpa using hj
    have K : ∀ r, r < 4 → ∀ v, (tupC ((l.map (·.1))[j]?.getD tup0))[r]? = some v → w.cell? ⟨g, 0 + j * 4 + r, none⟩ = some v := by
      intro r hr v hv
      have h1 := (h (j * 4 + r) (by simp; omega)).1
      obtain ⟨v', hv', hf⟩ := flatK_get l (j * 4 + r) (by omega)
      rw [show (j * 4 + r) / 4 = j by omega, show (j * 4 + r) % 4 = r by omega, hv] at hv'
      injection hv' with hv'
      rw [hf, ← hv', show 0 + (j * 4 + r) = 0 + j * 4 + r by omega] at h1
      exact h1
    exact ⟨K 0 (by decide) _ rfl, K 1 (by decide) _ rfl, K 2 (by decide) _ rfl, K 3 (by decide) _ rfl⟩

theorem below_sortWorld {w : World} (B g : Nat) (hB : B ≤ g) (hg : g < w.heap.size) (n : Nat) (d : Array OTup) (os : Array Obj) : Below B w (sortWorldK encO 4 w g 0 n d os) := by
  refine ⟨rfl, rfl, rfl, size_sortWorldK_c encO 4 w g 0 n d os, fun k hk => ?_⟩
  unfold sortWorldK Go.Sort.grow Go.Sort.putRowK Go.Sort.putRow Go.Sort.mapBlock
  simp only
  rw [Array.getElem?_append_left (by simp [Go.Sort.ahead]; omega), Array.getElem?_modify, if_neg (by omega)]
  rfl

theorem sorted_is (us : List Tup) (ho : ∀ u ∈ us, Tup.ok u) (d' : Array OTup) (hp : Go.Sort.PermIn 0 (packO us ho).toArray.size (packO us ho).toArray d') (hs : Go.Sort.SortedIn (ltOf cfO) 0 (packO us ho).toArray.size d') : d'.toList.map (·.1) = sortT us := by
  obtain ⟨p1, _, p3⟩ := hp
  have e1 : d'.extract 0 (packO us ho).toArray.size = d' := by rw [← p1]; simp
  have e2 : (packO us ho).toArray.extract 0 (packO us ho).toArray.size = (packO us ho).toArray := by simp
  rw [e1, e2] at p3
  have p4 : (d'.toList.map (·.1)).Perm us := by
    have := p3.map (fun x : OTup => x.1)
    simpa [packO_val] using this
  refine sorted_unique (fun x hx => ?_) (p4.trans (sortT_perm us).symm) ?_ (sortT_sorted us)
  · obtain ⟨y, _, rfl⟩ := List.mem_map.1 hx
    exact y.2
  · rw [List.pairwise_map, List.pairwise_iff_getElem]
    intro i j hi hj hij
    have := hs i j (Nat.zero_le _) hij (by rw [← p1]; simpa using hj)
    rw [getElem!_pos d' i (by simpa using hi), getElem!_pos d' j (by simpa using hj)] at this
    simp only [ltOf, cfO] at this
    simpa using leT_iff.2 (of_decide_eq_false this)

set_option maxRecDepth 100000 in
set_option maxHeartbeats 2000000 in
theorem sortFuncT_any (len cap g : Nat) (us : List Tup) (hl : us.length = len) (hs : len ≤ 1000) (ho : ∀ u ∈ us, Tup.ok u) (base : Nat) (w : World) (hown : w.ownsRow base 25 4 (.slice (some ⟨g, 0, none⟩) len cap) len (flatT us)) (hb : base ≤ g) (hg : g < w.heap.size) :
    Calls Tryd.prog 41 #[.slice (some ⟨g, 0, none⟩) len cap, .func (.func 13) #[] #[]] w fun e w' => e = .returned (.tuple #[]) ∧ TRow w'.heap.size w' (some ⟨g, 0, none⟩) (sortT us) ∧ Below base w w' := by
  have hd : (packO us ho).toArray.size = len := by simp [packO_length, hl]
  have eg : ∀ args w, (callFunc 13 args).run Tryd.prog w = .ok (.enter 13 args) w := enters_of Tryd.func13 (by kernel_rfl) rfl
  have H := holds_of_own ho hl hown
  have hcon := AnyQ.slices_SortFunc Tryd.sortTup 4 Tryd.isAgg25 Tryd.sizeOf25 encO (fun _ => rfl) (fun x v hv => by simp [encO, tupC] at hv; rcases hv with rfl | rfl | rfl | rfl <;> rfl) cfO swoO 13 #[] g 0 cap (packO us ho).toArray w eg (cmpLaysO g 0 _ w) H hg (by omega)
  change Calls Tryd.prog 41 _ _ _ at hcon
  have hcon' : Calls Tryd.prog 41 #[.slice (some ⟨g, 0, none⟩) (packO us ho).toArray.size cap, .func (.func 13) #[] #[]] w _ := hcon
  rw [hd] at hcon'
  refine hcon'.mono ?_
  rintro e w' ⟨rfl, d', n, os, hp, hsr, rfl⟩
  rw [← hd] at hp hsr
  have hz : d'.size = (packO us ho).toArray.size := hp.1
  have hr := trow_of_holds d'.toList (by have := size_sortWorldK_c encO 4 w g 0 n d' os; omega) (holdsK_sortWorldK_c encO 4 w g 0 (packO us ho).toArray d' n os H hg hz)
  rw [sorted_is us ho d' hp hsr] at hr
  exact ⟨rfl, hr, below_sortWorld base g hb hg n d' os⟩
end Go.Proofs.YtpbheonapgckfaaDoor
