/-
  Sills without any program: what a relaxation ends with, ways that avoid a cell, ponds.
-/
import Derived.Test.YthcenmocnphnmaaGreatDoorMI
import Derived.Laws.StructEq
import Derived.Test.YthcenmocnphnmaaGreatDoorMA
set_option linter.unusedSimpArgs false
set_option linter.unusedVariables false
namespace Go.Proofs.YthcenmocnphnmaaGreatDoor

theorem near_sym {g : G} (V : Valid g) {c d : Nat} (hc : c < g.ss.length) (hd : d ∈ (nearL g c).map Int.toNat) : c ∈ (nearL g d).map Int.toNat := by
  have h1 := V.w1
  obtain ⟨x, y, hx, hy, rfl⟩ := cell_xy V hc
  rw [near_xy V hx] at hd
  obtain ⟨e, he, rfl⟩ := List.mem_map.1 hd
  unfold nbl at he
  simp only [List.mem_append] at he
  rcases he with h | h | h | h <;> split at h <;> simp only [List.mem_singleton, List.not_mem_nil] at h
  · rename_i h5
    have e1 : e.toNat = cellAt g (x + 1) y := by subst h; unfold cellAt; omega
    rw [e1]
    exact near_left V (by omega)
  · rename_i h5
    have e1 : e.toNat = cellAt g x (y + 1) := by subst h; unfold cellAt; rw [Nat.mul_add]; omega
    rw [e1]
    exact near_down V hx
  · rename_i h5
    obtain ⟨k, rfl⟩ : ∃ k, x = k + 1 := ⟨x - 1, by omega⟩
    have e1 : e.toNat = cellAt g k y := by subst h; unfold cellAt; omega
    rw [e1]
    exact near_right V hx
  · rename_i h5
    obtain ⟨k, rfl⟩ : ∃ k, y = k + 1 := ⟨y - 1, by omega⟩
    have e1 : e.toNat = cellAt g x k := by subst h; unfold cellAt; rw [Nat.mul_add]; omega
    rw [e1]
    exact near_up V hx (by omega)
theorem near_lt {g : G} (V : Valid g) {c d : Nat} (hc : c < g.ss.length) (hd : d ∈ (nearL g c).map Int.toNat) : d < g.ss.length := by
  obtain ⟨e, he, rfl⟩ := List.mem_map.1 hd
  have := nearL_rng V hc e he
  omega

/-- neighbors, and sea, without a cell -/
def nbW (g : G) (a : Int) (c : Nat) : List Nat := ((nearL g c).map Int.toNat).filter fun d => decide ((d : Int) ≠ a)
def stW (sts : List Nat) (a : Int) : List Nat := sts.filter fun d => decide ((d : Int) ≠ a)
/-- the ways of the water, without a cell -/
def WayW (g : G) (ht : Nat → Int) (sts : List Nat) (a : Int) : Nat → Int → Prop := Way (nbW g a) (stW sts a) ht fun v d => max v (ht d)
theorem WayW.off {g : G} {ht : Nat → Int} {sts : List Nat} {a : Int} {c : Nat} {v : Int} (h : WayW g ht sts a c v) : (c : Int) ≠ a := by
  cases h with
  | start hc => simpa using (List.mem_filter.1 hc).2
  | step hw hd => simpa using (List.mem_filter.1 hd).2
theorem WayW.lt {g : G} (V : Valid g) {ht : Nat → Int} {sts : List Nat} {a : Int} (hst : ∀ c, c ∈ sts → c < g.ss.length) {c : Nat} {v : Int} (h : WayW g ht sts a c v) : c < g.ss.length := by
  induction h with
  | start hc => exact hst _ (List.mem_filter.1 hc).1
  | step hw hd ih => exact near_lt V ih (List.mem_filter.1 hd).1
theorem WayW.bound {g : G} (V : Valid g) {ht : Nat → Int} {sts : List Nat} {a : Int} (hst : ∀ c, c ∈ sts → c < g.ss.length) {M : Int} (hM : ∀ c, c < g.ss.length → ht c ≤ M) {c : Nat} {v : Int} (h : WayW g ht sts a c v) : v ≤ M := by
  induction h with
  | start hc => exact hM _ (hst _ (List.mem_filter.1 hc).1)
  | step hw hd ih =>
    have := hM _ (near_lt V (WayW.lt V hst hw) (List.mem_filter.1 hd).1)
    omega
theorem WayW.congr {g : G} {ht ht' : Nat → Int} {sts : List Nat} {a : Int} (he : ∀ c : Nat, (c : Int) ≠ a → ht c = ht' c) {c : Nat} {v : Int} (h : WayW g ht sts a c v) : WayW g ht' sts a c v := by
  induction h with
  | start hc =>
    rw [he _ (by simpa using (List.mem_filter.1 hc).2)]
    exact Way.start hc
  | step hw hd ih =>
    rw [he _ (by simpa using (List.mem_filter.1 hd).2)]
    exact Way.step ih hd
theorem WayW.full {g : G} {ht : Nat → Int} {sts : List Nat} {a : Int} {c : Nat} {v : Int} (h : WayW g ht sts a c v) : Way (fun c => (nearL g c).map Int.toNat) sts ht (fun v d => max v (ht d)) c v := by
  induction h with
  | start hc => exact Way.start (List.mem_filter.1 hc).1
  | step hw hd ih => exact Way.step ih (List.mem_filter.1 hd).1
theorem WayW.none_ {g : G} {ht : Nat → Int} {sts : List Nat} {c : Nat} {v : Int} (h : Way (fun c => (nearL g c).map Int.toNat) sts ht (fun v d => max v (ht d)) c v) : WayW g ht sts (-1) c v := by
  induction h with
  | start hc => exact Way.start (List.mem_filter.2 ⟨hc, by simp <;> omega⟩)
  | step hw hd ih => exact Way.step ih (List.mem_filter.2 ⟨hd, by simp <;> omega⟩)
/-- a way to a neighbor of a cell that is no sea has a front that ends at a neighbor, without the cell -/
theorem way_front {g : G} (V : Valid g) {ht : Nat → Int} {sts : List Nat} {a : Nat} (ha : a < g.ss.length) (hs : a ∉ sts) (hst : ∀ c, c ∈ sts → c < g.ss.length) {c : Nat} {v : Int}
    (h : Way (fun c => (nearL g c).map Int.toNat) sts ht (fun v d => max v (ht d)) c v) : c < g.ss.length ∧ ((c ≠ a ∧ WayW g ht sts a c v) ∨ ∃ d u, d ∈ (nearL g a).map Int.toNat ∧ u ≤ v ∧ WayW g ht sts a d u) := by
  induction h with
  | @start c hc =>
    have : c ≠ a := by rintro rfl; exact hs hc
    exact ⟨hst _ hc, .inl ⟨this, Way.start (List.mem_filter.2 ⟨hc, by simp; omega⟩)⟩⟩
  | @step c d v hw hd ih =>
    obtain ⟨h1, h2⟩ := ih
    refine ⟨near_lt V h1 hd, ?_⟩
    rcases h2 with ⟨h2, h3⟩ | ⟨e, u, h2, h3, h4⟩
    · by_cases e : d = a
      · subst e
        exact .inr ⟨c, v, near_sym V h1 hd, by omega, h3⟩
      · exact .inl ⟨e, Way.step h3 (List.mem_filter.2 ⟨hd, by simp; omega⟩)⟩
    · exact .inr ⟨e, u, h2, by omega, h4⟩

/-- what the relaxation ends with -/
structure Relaxed (g : G) (ht : Nat → Int) (sts : List Nat) (a : Int) (out : List Int) : Prop where
  len : out.length = g.ss.length
  way : ∀ c, c < g.ss.length → val out c = 1073741824 ∨ WayW g ht sts a c (val out c)
  le : ∀ c v, WayW g ht sts a c v → val out c ≤ v
/-- what holds in every step of it -/
structure Relaxing (g : G) (ht : Nat → Int) (sts : List Nat) (a : Int) (out : List Int) : Prop where
  len : out.length = g.ss.length
  way : ∀ c, c < g.ss.length → val out c = 1073741824 ∨ WayW g ht sts a c (val out c)
  sts : ∀ c, c ∈ stW sts a → val out c ≤ ht c
  off : ∀ c : Nat, (c : Int) = a → val out c = 1073741824
/-- nothing is left to be done at the first k neighbors of a cell -/
def Calm (g : G) (ht : Nat → Int) (a : Int) (out : List Int) (c k : Nat) : Prop := (c : Int) ≠ a → ∀ d, d ∈ ((nearL g c).map Int.toNat).take k → val out c ≤ max (val out d) (ht c)
theorem Relaxing.done {g : G} (V : Valid g) {ht : Nat → Int} {sts : List Nat} {a : Int} {out : List Int} (hst : ∀ c, c ∈ sts → c < g.ss.length) (h : Relaxing g ht sts a out) (hc : ∀ c, c < g.ss.length → Calm g ht a out c ((nearL g c).length)) : Relaxed g ht sts a out := by
  refine ⟨h.len, h.way, fun c v hw => ?_⟩
  have hl := WayW.lt V hst hw
  induction hw with
  | start hs => exact h.sts _ hs
  | @step c d v hw hd ih =>
    have hcl := WayW.lt V hst hw
    have hd1 := (List.mem_filter.1 hd).1
    have hd2 : (d : Int) ≠ a := by simpa using (List.mem_filter.1 hd).2
    have h1 := hc d hl hd2 c (by rw [List.take_of_length_le (by simp)]; exact near_sym V hcl hd1)
    have h2 := ih hcl
    show val out d ≤ max v (ht d)
    omega
theorem Relaxing.set {g : G} (V : Valid g) {ht : Nat → Int} {sts : List Nat} {a : Int} {out : List Int} (hM : ∀ c, c < g.ss.length → ht c ≤ 1200000) (hst : ∀ c, c ∈ sts → c < g.ss.length) (h : Relaxing g ht sts a out) {c d : Nat} (hc : c < g.ss.length) (hca : (c : Int) ≠ a) (hd : d ∈ (nearL g c).map Int.toNat) (hlt : max (val out d) (ht c) < val out c) :
    Relaxing g ht sts a (out.set c (max (val out d) (ht c))) := by
  have hcl : c < out.length := by rw [h.len]; exact hc
  have hdl := near_lt V hc hd
  have hhi : ∀ e, e < g.ss.length → val out e ≤ 1073741824 := by
    intro e he
    rcases h.way e he with h1 | h1
    · omega
    · have := WayW.bound V hst hM h1
      omega
  have hwd : WayW g ht sts a d (val out d) := by
    rcases h.way d hdl with h1 | h1
    · have := hhi c hc
      omega
    · exact h1
  refine ⟨by rw [List.length_set]; exact h.len, fun e he => ?_, fun e he => ?_, fun e he => ?_⟩
  · rw [val_set hcl]
    by_cases e1 : e = c
    · rw [if_pos e1]
      subst e1
      exact .inr (Way.step hwd (List.mem_filter.2 ⟨near_sym V hc hd, by simpa using hca⟩))
    · rw [if_neg e1]
      exact h.way e he
  · rw [val_set hcl]
    have := h.sts e he
    split
    · rename_i e1; subst e1; omega
    · exact this
  · rw [val_set hcl, if_neg (by rintro rfl; exact hca he)]
    exact h.off e he
/-- how much is left to sink -/
def lefts (g : G) (out : List Int) : Nat := psum (fun c => (val out c + 1200000).toNat) g.ss.length
theorem lefts_set {g : G} {out : List Int} {c : Nat} {x : Int} (hl : out.length = g.ss.length) (hc : c < g.ss.length) (hx : x < val out c) (hx' : -1200000 ≤ x) : lefts g (out.set c x) + 1 ≤ lefts g out := by
  unfold lefts
  refine psum_lt (c := c) (fun i hi => ?_) hc ?_
  · rw [val_set (by omega)]
    split
    · rename_i e; subst e; omega
    · exact Nat.le_refl _
  · rw [val_set (by omega), if_pos rfl]
    omega

/-- the reference's sills are those of the search -/
theorem Relaxed.sills {g : G} (V : Valid g) {f : FuncId} {sel : Int × Int → Int} (hE : IsEnd f sel) {sts : List Nat} {out vs : List Int} (hne : sts ≠ []) (hst : ∀ c, c ∈ sts → c < g.ss.length) (h : Relaxed g (hgt g sel) sts (-1) out) (hb : Silled g sel sts vs) : out = vs := by
  refine List.ext_getElem (h.len.trans hb.len.symm) fun c h1 h2 => ?_
  have hc : c < g.ss.length := by rw [← h.len]; exact h1
  obtain ⟨s, hs⟩ := List.exists_mem_of_ne_nil _ hne
  obtain ⟨v, hv⟩ := way_all (fst := hgt g sel) (nx := fun v d => max v (hgt g sel d)) V hs (hst s hs) hc
  have hw := hb.way c hc ⟨v, hv⟩
  have g1 := h.le c _ (WayW.none_ hw)
  have hM : ∀ c, c < g.ss.length → hgt g sel c ≤ 1200000 := fun c hc => (hgt_acc hE V hc).2
  have g2 : val vs c ≤ val out c := by
    rcases h.way c hc with h3 | h3
    · have := WayW.bound V hst hM (WayW.none_ hw)
      omega
    · have := hb.least (stepH g sel) h3.full
      unfold ltUp at this
      simp only [decide_eq_false_iff_not] at this
      omega
  have e : val out c = val vs c := by omega
  unfold val at e
  rw [List.getD_eq_getElem?_getD, List.getD_eq_getElem?_getD, List.getElem?_eq_getElem h1, List.getElem?_eq_getElem h2] at e
  exact e

/-! The least of a list. -/
def mnF (f : Int → Int) (z : Int) (l : List Int) : Int := l.foldl (fun m d => min m (f d)) z
theorem mnF_snoc (f : Int → Int) (z : Int) (l : List Int) (d : Int) : mnF f z (l ++ [d]) = min (mnF f z l) (f d) := by
  unfold mnF
  rw [List.foldl_append]
  rfl
theorem mnF_le (f : Int → Int) : ∀ (l : List Int) (z : Int), mnF f z l ≤ z ∧ ∀ d, d ∈ l → mnF f z l ≤ f d
  | [], z => ⟨Int.le_refl _, by simp⟩
  | x :: l, z => by
    obtain ⟨h1, h2⟩ := mnF_le f l (min z (f x))
    have e : mnF f z (x :: l) = mnF f (min z (f x)) l := rfl
    rw [e]
    refine ⟨by omega, fun d hd => ?_⟩
    rcases List.mem_cons.1 hd with rfl | hd
    · omega
    · exact h2 d hd
theorem le_mnF (f : Int → Int) (b : Int) : ∀ (l : List Int) (z : Int), b ≤ z → (∀ d, d ∈ l → b ≤ f d) → b ≤ mnF f z l
  | [], z, h, _ => h
  | x :: l, z, h, h2 => le_mnF f b l (min z (f x)) (by have := h2 x List.mem_cons_self; omega) fun d hd => h2 d (List.mem_cons_of_mem _ hd)
/-- water flows off over the same rim, whether ways may come to the cell or not -/
theorem rim_avoid {g : G} (V : Valid g) {f : FuncId} {sel : Int × Int → Int} (hE : IsEnd f sel) {sts : List Nat} {vs out : List Int} {ht : Nat → Int} {a : Nat} (ha : a < g.ss.length) (hne : sts ≠ []) (hst : ∀ c, c ∈ sts → c < g.ss.length) (hs : a ∉ sts)
    (hht : ∀ c, c ≠ a → ht c = hgt g sel c) (hb : Silled g sel sts vs) (h : Relaxed g ht sts a out) :
    mnF (fun d => val out d.toNat) 1073741824 (nearL g a) = mnF (fun d => val vs d.toNat) 1200000 (nearL g a) := by
  have hM : ∀ c, c < g.ss.length → hgt g sel c ≤ 1200000 := fun c hc => (hgt_acc hE V hc).2
  have hto : ∀ d u, WayW g ht sts a d u → WayW g (hgt g sel) sts a d u := fun d u hw => hw.congr fun c hc => hht c (by omega)
  have hfr : ∀ d u, WayW g (hgt g sel) sts a d u → WayW g ht sts a d u := fun d u hw => hw.congr fun c hc => (hht c (by omega)).symm
  have hle : ∀ c u, Way (fun c => (nearL g c).map Int.toNat) sts (hgt g sel) (fun v d => max v (hgt g sel d)) c u → val vs c ≤ u := by
    intro c u hw
    have := hb.least (stepH g sel) hw
    unfold ltUp at this
    simp only [decide_eq_false_iff_not] at this
    omega
  have key : ∀ d u, d ∈ (nearL g a).map Int.toNat → Way (fun c => (nearL g c).map Int.toNat) sts (hgt g sel) (fun v d => max v (hgt g sel d)) d u → mnF (fun d => val out d.toNat) 1073741824 (nearL g a) ≤ u := by
    intro d u hd hw
    obtain ⟨_, h1⟩ := way_front V ha hs hst hw
    obtain ⟨e, x, he, hx, hwx⟩ : ∃ e x, e ∈ (nearL g a).map Int.toNat ∧ x ≤ u ∧ WayW g (hgt g sel) sts a e x := by
      rcases h1 with ⟨_, h1⟩ | ⟨e, x, h1, h2, h3⟩
      · exact ⟨d, u, hd, Int.le_refl _, h1⟩
      · exact ⟨e, x, h1, h2, h3⟩
    obtain ⟨i, hi, rfl⟩ := List.mem_map.1 he
    have h2 := (mnF_le (fun d => val out d.toNat) (nearL g a) 1073741824).2 i hi
    have h3 := h.le _ _ (hfr _ _ hwx)
    have h4 : mnF (fun d => val out d.toNat) 1073741824 (nearL g a) ≤ val out i.toNat := h2
    omega
  obtain ⟨s, hs0⟩ := List.exists_mem_of_ne_nil _ hne
  have hall : ∀ c, c < g.ss.length → ∃ v, Way (fun c => (nearL g c).map Int.toNat) sts (hgt g sel) (fun v d => max v (hgt g sel d)) c v := fun c hc => way_all V hs0 (hst s hs0) hc
  refine Int.le_antisymm ?_ ?_
  · refine le_mnF _ _ _ _ ?_ ?_
    · obtain ⟨v, hv⟩ := hall a ha
      cases hv with
      | start hc => exact absurd hc hs
      | @step c _ u hw hd =>
        have hc : c < g.ss.length := by
          have := (way_front V ha hs hst hw).1
          exact this
        have h1 := key c u (near_sym V hc hd) hw
        have h2 := WayW.bound V hst hM (WayW.none_ hw)
        omega
    · intro d hd
      have hdm : d.toNat ∈ (nearL g a).map Int.toNat := List.mem_map.2 ⟨d, hd, rfl⟩
      have hdl := near_lt V ha hdm
      exact key d.toNat _ hdm (hb.way _ hdl (hall _ hdl))
  · have hlow := mnF_le (fun d => val vs d.toNat) (nearL g a) 1200000
    refine le_mnF _ _ _ _ (by omega) ?_
    intro d hd
    have hdm : d.toNat ∈ (nearL g a).map Int.toNat := List.mem_map.2 ⟨d, hd, rfl⟩
    have hdl := near_lt V ha hdm
    have h1 := hlow.2 d hd
    have h1 : mnF (fun d => val vs d.toNat) 1200000 (nearL g a) ≤ val vs d.toNat := h1
    show _ ≤ val out d.toNat
    rcases h.way d.toNat hdl with h2 | h2
    · omega
    · have h3 := hle _ _ (hto _ _ h2).full
      omega
end Go.Proofs.YthcenmocnphnmaaGreatDoor
/-
  Tightened grids without any program.
-/
namespace Go.Proofs.YthcenmocnphnmaaGreatDoor

def loF (ss : List (Int × Int)) (c : Nat) : Int := (ss.getD c (0, 0)).1
def hiF (ss : List (Int × Int)) (c : Nat) : Int := (ss.getD c (0, 0)).2
theorem loF_set {ss : List (Int × Int)} {c d : Nat} {s : Int × Int} (hc : c < ss.length) : loF (ss.set c s) d = if d = c then s.1 else loF ss d := by
  unfold loF
  rw [List.getD_eq_getElem?_getD, List.getElem?_set]
  by_cases e : c = d
  · subst e; simp [hc]
  · rw [if_neg e, if_neg (Ne.symm e), List.getD_eq_getElem?_getD]
theorem hiF_set {ss : List (Int × Int)} {c d : Nat} {s : Int × Int} (hc : c < ss.length) : hiF (ss.set c s) d = if d = c then s.2 else hiF ss d := by
  unfold hiF
  rw [List.getD_eq_getElem?_getD, List.getElem?_set]
  by_cases e : c = d
  · subst e; simp [hc]
  · rw [if_neg e, if_neg (Ne.symm e), List.getD_eq_getElem?_getD]

/-- the search for lower ends, and for upper ends -/
def LowB (g : G) (step : Int) (lo : List Int) : Prop := Best (fun c => (nearL g c).map Int.toNat) (List.range g.ss.length) (loF g.ss) (fun v _ => v - step) ltDown g.ss.length lo
def HighB (g : G) (step : Int) (hi : List Int) : Prop := Best (fun c => (nearL g c).map Int.toNat) (List.range g.ss.length) (hiF g.ss) (fun v _ => v + step) ltUp g.ss.length hi
def Tightened (g : G) (step : Int) (tt : List (Int × Int)) : Prop := ∃ lo hi, LowB g step lo ∧ HighB g step hi ∧ tt = lo.zip hi
theorem Tightened.length {g : G} {step : Int} {tt : List (Int × Int)} (h : Tightened g step tt) : tt.length = g.ss.length := by
  obtain ⟨lo, hi, h1, h2, rfl⟩ := h
  have e1 := h1.len
  have e2 := h2.len
  simp [e1, e2]
def WayL (g : G) (step : Int) : Nat → Int → Prop := Way (fun c => (nearL g c).map Int.toNat) (List.range g.ss.length) (loF g.ss) (fun v _ => v - step)
def WayH (g : G) (step : Int) : Nat → Int → Prop := Way (fun c => (nearL g c).map Int.toNat) (List.range g.ss.length) (hiF g.ss) (fun v _ => v + step)
theorem stepL (step : Int) : Step (fun v _ => v - step) ltDown := by
  refine ⟨fun v u d h => ?_, fun a b c h k => ?_, fun a b h k => ?_⟩
  · unfold ltDown at *; simp only [decide_eq_false_iff_not] at *; omega
  · unfold ltDown at *; simp only [decide_eq_false_iff_not] at *; omega
  · unfold ltDown at *; simp only [decide_eq_false_iff_not] at *; omega
theorem stepU (step : Int) : Step (fun v _ => v + step) ltUp := by
  refine ⟨fun v u d h => ?_, fun a b c h k => ?_, fun a b h k => ?_⟩
  · unfold ltUp at *; simp only [decide_eq_false_iff_not] at *; omega
  · unfold ltUp at *; simp only [decide_eq_false_iff_not] at *; omega
  · unfold ltUp at *; simp only [decide_eq_false_iff_not] at *; omega
section
variable {g : G} {step : Int} {los his : List Int} {tt : List (Int × Int)}
theorem LowB.ge (h : LowB g step los) {c : Nat} {v : Int} (hw : WayL g step c v) : v ≤ val los c := by
  have := h.least (stepL step) hw
  unfold ltDown at this
  simp only [decide_eq_false_iff_not] at this
  omega
theorem HighB.le (h : HighB g step his) {c : Nat} {v : Int} (hw : WayH g step c v) : val his c ≤ v := by
  have := h.least (stepU step) hw
  unfold ltUp at this
  simp only [decide_eq_false_iff_not] at this
  omega
theorem LowB.way_ (h : LowB g step los) {c : Nat} (hc : c < g.ss.length) : WayL g step c (val los c) := h.way c hc ⟨_, .start (List.mem_range.2 hc)⟩
theorem HighB.way_ (h : HighB g step his) {c : Nat} (hc : c < g.ss.length) : WayH g step c (val his c) := h.way c hc ⟨_, .start (List.mem_range.2 hc)⟩
theorem zip_ends {c : Nat} (h1 : c < los.length) (h2 : c < his.length) : loF (los.zip his) c = val los c ∧ hiF (los.zip his) c = val his c := by
  unfold loF hiF val
  have : c < (los.zip his).length := by simp; omega
  rw [List.getD_eq_getElem?_getD, List.getElem?_eq_getElem this, List.getD_eq_getElem?_getD, List.getElem?_eq_getElem h1, List.getD_eq_getElem?_getD, List.getElem?_eq_getElem h2]
  simp
theorem Tightened.lower (h : Tightened g step tt) {c : Nat} (hc : c < g.ss.length) : WayL g step c (loF tt c) ∧ ∀ v, WayL g step c v → v ≤ loF tt c := by
  obtain ⟨lo, hi, h1, h2, rfl⟩ := h
  have e1 := h1.len
  have e2 := h2.len
  rw [(zip_ends (by omega) (by omega)).1]
  exact ⟨h1.way_ hc, fun v hv => h1.ge hv⟩
theorem Tightened.upper (h : Tightened g step tt) {c : Nat} (hc : c < g.ss.length) : WayH g step c (hiF tt c) ∧ ∀ v, WayH g step c v → hiF tt c ≤ v := by
  obtain ⟨lo, hi, h1, h2, rfl⟩ := h
  have e1 := h1.len
  have e2 := h2.len
  rw [(zip_ends (by omega) (by omega)).2]
  exact ⟨h2.way_ hc, fun v hv => h2.le hv⟩
end
theorem spans_ext {l m : List (Int × Int)} (h : l.length = m.length) (he : ∀ c, c < l.length → loF l c = loF m c ∧ hiF l c = hiF m c) : l = m := by
  refine List.ext_getElem h fun c h1 h2 => ?_
  obtain ⟨a, b⟩ := he c h1
  unfold loF at a
  unfold hiF at b
  rw [List.getD_eq_getElem?_getD, List.getElem?_eq_getElem h1, List.getD_eq_getElem?_getD, List.getElem?_eq_getElem h2] at a b
  exact Prod.ext a b
theorem Tightened.unique {g : G} {step : Int} {tt uu : List (Int × Int)} (h : Tightened g step tt) (k : Tightened g step uu) : tt = uu := by
  refine spans_ext (h.length.trans k.length.symm) fun c hc => ?_
  rw [h.length] at hc
  have a := h.lower hc
  have b := k.lower hc
  have c1 := h.upper hc
  have d := k.upper hc
  have := a.2 _ b.1
  have := b.2 _ a.1
  have := c1.2 _ d.1
  have := d.2 _ c1.1
  omega

/-- what holds in every step of the reference's way -/
structure Tightening (g : G) (step : Int) (out : List (Int × Int)) : Prop where
  len : out.length = g.ss.length
  lo : ∀ c, c < g.ss.length → WayL g step c (loF out c)
  hi : ∀ c, c < g.ss.length → WayH g step c (hiF out c)
  st : ∀ c, c < g.ss.length → loF g.ss c ≤ loF out c ∧ hiF out c ≤ hiF g.ss c
  ok : ∀ c, c < g.ss.length → loF out c ≤ hiF out c
theorem ok_of {g : G} (V : Valid g) {c : Nat} (hc : c < g.ss.length) : loF g.ss c ≤ hiF g.ss c ∧ -1200000 ≤ loF g.ss c ∧ hiF g.ss c ≤ 1200000 := by
  have h := List.all_eq_true.1 V.ok g.ss[c] (List.getElem_mem hc)
  unfold okSpan at h
  have h := of_decide_eq_true h
  unfold loF hiF
  rw [List.getD_eq_getElem?_getD, List.getElem?_eq_getElem hc]
  exact ⟨h.1, h.2.1, h.2.2⟩
theorem Tightening.init {g : G} (V : Valid g) (step : Int) : Tightening g step g.ss :=
  ⟨rfl, fun _ hc => .start (List.mem_range.2 hc), fun _ hc => .start (List.mem_range.2 hc), fun _ _ => ⟨Int.le_refl _, Int.le_refl _⟩, fun _ hc => (ok_of V hc).1⟩
/-- the span of a cell, pulled by a neighbor -/
def pulled (step : Int) (out : List (Int × Int)) (c d : Nat) : Int × Int := (max (loF out c) (loF out d - step), min (hiF out c) (hiF out d + step))
theorem Tightening.ways {g : G} (V : Valid g) {step : Int} {out : List (Int × Int)} (h : Tightening g step out) {c d : Nat} (hc : c < g.ss.length) (hd : d ∈ (nearL g c).map Int.toNat) : WayL g step c (pulled step out c d).1 ∧ WayH g step c (pulled step out c d).2 := by
  have hdl := near_lt V hc hd
  have hs := near_sym V hc hd
  unfold pulled
  constructor
  · simp only
    rcases Int.le_total (loF out c) (loF out d - step) with e | e
    · rw [Int.max_eq_right e]
      exact Way.step (h.lo d hdl) hs
    · rw [Int.max_eq_left e]
      exact h.lo c hc
  · simp only
    rcases Int.le_total (hiF out c) (hiF out d + step) with e | e
    · rw [Int.min_eq_left e]
      exact h.hi c hc
    · rw [Int.min_eq_right e]
      exact Way.step (h.hi d hdl) hs
theorem Tightening.set {g : G} (V : Valid g) {step : Int} {out : List (Int × Int)} (h : Tightening g step out) {c d : Nat} (hc : c < g.ss.length) (hd : d ∈ (nearL g c).map Int.toNat) (hok : (pulled step out c d).1 ≤ (pulled step out c d).2) : Tightening g step (out.set c (pulled step out c d)) := by
  have hcl : c < out.length := by rw [h.len]; exact hc
  obtain ⟨w1, w2⟩ := h.ways V hc hd
  refine ⟨by rw [List.length_set]; exact h.len, fun e he => ?_, fun e he => ?_, fun e he => ?_, fun e he => ?_⟩
  · rw [loF_set hcl]
    split
    · rename_i e1; subst e1; exact w1
    · exact h.lo e he
  · rw [hiF_set hcl]
    split
    · rename_i e1; subst e1; exact w2
    · exact h.hi e he
  · rw [loF_set hcl, hiF_set hcl]
    have := h.st e he
    split
    · rename_i e1; subst e1; unfold pulled; simp only; omega
    · exact this
  · rw [loF_set hcl, hiF_set hcl]
    split
    · exact hok
    · exact h.ok e he
theorem Tightening.conflict {g : G} (V : Valid g) {step : Int} {out tt : List (Int × Int)} (h : Tightening g step out) (ht : Tightened g step tt) {c d : Nat} (hc : c < g.ss.length) (hd : d ∈ (nearL g c).map Int.toNat) (hno : (pulled step out c d).2 < (pulled step out c d).1) : hiF tt c < loF tt c := by
  obtain ⟨w1, w2⟩ := h.ways V hc hd
  have := (ht.lower hc).2 _ w1
  have := (ht.upper hc).2 _ w2
  omega
/-- nothing is left to be done at the first k neighbors of a cell -/
def CalmT (g : G) (step : Int) (out : List (Int × Int)) (c k : Nat) : Prop := ∀ d, d ∈ ((nearL g c).map Int.toNat).take k → pulled step out c d = (loF out c, hiF out c)
theorem Tightening.done {g : G} (V : Valid g) {step : Int} {out tt : List (Int × Int)} (h : Tightening g step out) (ht : Tightened g step tt) (hc : ∀ c, c < g.ss.length → CalmT g step out c ((nearL g c).length)) : out = tt := by
  have hlt : ∀ c v, WayL g step c v → c < g.ss.length := by
    intro c v hw
    induction hw with
    | start hs => exact List.mem_range.1 hs
    | step hw hd ih => exact near_lt V ih hd
  have hlt' : ∀ c v, WayH g step c v → c < g.ss.length := by
    intro c v hw
    induction hw with
    | start hs => exact List.mem_range.1 hs
    | step hw hd ih => exact near_lt V ih hd
  have k1 : ∀ c v, WayL g step c v → v ≤ loF out c := by
    intro c v hw
    induction hw with
    | start hs => exact (h.st _ (List.mem_range.1 hs)).1
    | @step c d v hw hd ih =>
      have hcl := hlt _ _ hw
      have hdl := near_lt V hcl hd
      have := hc d hdl c (by rw [List.take_of_length_le (by simp)]; exact near_sym V hcl hd)
      unfold pulled at this
      have := congrArg Prod.fst this
      simp only at this
      show v - step ≤ _
      omega
  have k2 : ∀ c v, WayH g step c v → hiF out c ≤ v := by
    intro c v hw
    induction hw with
    | start hs => exact (h.st _ (List.mem_range.1 hs)).2
    | @step c d v hw hd ih =>
      have hcl := hlt' _ _ hw
      have hdl := near_lt V hcl hd
      have := hc d hdl c (by rw [List.take_of_length_le (by simp)]; exact near_sym V hcl hd)
      unfold pulled at this
      have := congrArg Prod.snd this
      simp only at this
      show _ ≤ v + step
      omega
  refine spans_ext (h.len.trans ht.length.symm) fun c hcl => ?_
  rw [h.len] at hcl
  have a := ht.lower hcl
  have b := ht.upper hcl
  have := a.2 _ (h.lo c hcl)
  have := k1 c _ a.1
  have := b.2 _ (h.hi c hcl)
  have := k2 c _ b.1
  omega
/-- how much is left to be pulled -/
def widths (g : G) (out : List (Int × Int)) : Nat := psum (fun c => (hiF out c - loF out c).toNat) g.ss.length
theorem widths_set {g : G} {step : Int} {out : List (Int × Int)} (h : Tightening g step out) {c d : Nat} (hc : c < g.ss.length) (hok : (pulled step out c d).1 ≤ (pulled step out c d).2) (hne : pulled step out c d ≠ (loF out c, hiF out c)) : widths g (out.set c (pulled step out c d)) + 1 ≤ widths g out := by
  have hcl : c < out.length := by rw [h.len]; exact hc
  unfold widths
  refine psum_lt (c := c) (fun i hi => ?_) hc ?_
  · rw [loF_set hcl, hiF_set hcl]
    split
    · rename_i e
      subst e
      unfold pulled
      simp only
      omega
    · exact Nat.le_refl _
  · rw [loF_set hcl, hiF_set hcl, if_pos rfl, if_pos rfl]
    have h1 : ¬ ((pulled step out c d).1 = loF out c ∧ (pulled step out c d).2 = hiF out c) := fun ⟨a, b⟩ => hne (Prod.ext a b)
    unfold pulled at *
    simp only at *
    omega
end Go.Proofs.YthcenmocnphnmaaGreatDoor
/-
  '!=' on spans.
-/
namespace Go.Proofs.YthcenmocnphnmaaGreatDoor
open Go.RowKit

theorem span_st : Tryz.prog.underlying 34 = some (.struct (Tryz.prog.fieldsOf 34)) := by kernel_rfl
theorem span_held : Tryz.prog.stoodInHeld 34 = false := by kernel_rfl
theorem span_struct : ∃ f g : Field, Tryz.prog.underlying 34 = some (.struct #[f, g]) ∧ f.name ≠ "_" ∧ g.name ≠ "_" ∧ f.type = 3 ∧ g.type = 3 ∧ f.offset = 0 ∧ g.offset = 1 := by
  have h := Tryz.underlying34
  exact ⟨_, _, h, by decide, by decide, rfl, rfl, rfl, rfl⟩
theorem span_fields : ∃ f g : Field, (Tryz.prog.fieldsOf 34).toList = [f, g] ∧ f.name ≠ "_" ∧ g.name ≠ "_" ∧ f.type = 3 ∧ g.type = 3 ∧ f.offset = 0 ∧ g.offset = 1 := by
  obtain ⟨f, g, h, k⟩ := span_struct
  exact ⟨f, g, by rw [Program.fieldsOf, h], k⟩
theorem int_und : Tryz.prog.underlying 3 = some (.int .i64) := by kernel_rfl
theorem eq_span (d : Nat) (W : World) (a b c e : Int) : (Op.equalIn (d + 2) 34 (.agg #[.int .i64 a, .int .i64 b]) (.agg #[.int .i64 c, .int .i64 e])).run Tryz.prog W = .ok (a == c && b == e) W := by
  obtain ⟨f, g, h1, h2, h3, h4, h5, h6, h7⟩ := span_fields
  rw [run_equalIn_agg _ (d + 1) _ _ _ span_st span_held, h1]
  simp only [Op.eqFields, h2, h3, h4, h5, h6, h7, ne_eq, not_false_eq_true, if_true]
  have i0 := int_und
  by_cases h : a = c
  · simp [go_sem, i0, h]
    by_cases k : b = e
    · simp [k]
    · simp [k]
  · simp [go_sem, i0, h]
theorem neq_span (W : World) (a b c e : Int) : (binOp .neq 34 (.agg #[.int .i64 a, .int .i64 b]) (.agg #[.int .i64 c, .int .i64 e])).run Tryz.prog W = .ok (.bool (!(a == c && b == e))) W := by
  rw [run_neq_struct]
  have := eq_span 9998 W a b c e
  rw [show (10000 : Nat) = 9998 + 2 from rfl, this]
  rfl
end Go.Proofs.YthcenmocnphnmaaGreatDoor
