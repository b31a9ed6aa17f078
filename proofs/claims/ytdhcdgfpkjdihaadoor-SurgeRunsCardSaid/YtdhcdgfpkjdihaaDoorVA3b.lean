/-
  Layer 3: what lies within, on integers: rises, setups, steady levels, steps.
-/
import Derived.Test.YtdhcdgfpkjdihaaDoorVA3a
set_option linter.unusedSimpArgs false
set_option linter.unusedVariables false
namespace Go.Proofs.YtdhcdgfpkjdihaaDoor.Sg
open Go.RowKit
/-- a span within another one -/
def Lie (a b : Int × Int) : Prop := a.1 ≤ a.2 ∧ b.1 ≤ a.1 ∧ a.2 ≤ b.2
instance (a b : Int × Int) : Decidable (Lie a b) := inferInstanceAs (Decidable (_ ∧ _ ∧ _))
theorem Lie.self {a : Int × Int} (h : a.1 ≤ a.2) : Lie a a := ⟨h, Int.le_refl _, Int.le_refl _⟩
theorem Lie.valid {a b : Int × Int} (h : Lie a b) : b.1 ≤ b.2 := by have := h.1; have := h.2.1; have := h.2.2; omega
theorem Lie.trans {a b c : Int × Int} (h : Lie a b) (k : Lie b c) : Lie a c := ⟨h.1, Int.le_trans k.2.1 h.2.1, Int.le_trans h.2.2 k.2.2⟩
/-! Sums over fetches. -/
theorem foldl_add (f : Int → Int) (l : List Int) : ∀ r, l.foldl (fun r c => r + f c) r = r + sumZ f l := by
 induction l with
 | nil => intro r; simp [sumZ]
 | cons a l ih =>
  intro r
  unfold sumZ
  simp only [List.foldl_cons]
  rw [ih, ih (0 + f a)]
  omega
theorem sumZ_nil (f : Int → Int) : sumZ f [] = 0 := rfl
theorem sumZ_cons (f : Int → Int) (a : Int) (l : List Int) : sumZ f (a :: l) = f a + sumZ f l := by
 have := foldl_add f l (0 + f a)
 unfold sumZ at *
 simp only [List.foldl_cons]
 omega
theorem sumZ_snoc (f : Int → Int) (l : List Int) (a : Int) : sumZ f (l ++ [a]) = sumZ f l + f a := by
 unfold sumZ
 rw [List.foldl_append]
 rfl
theorem sum_nonneg {f : Int → Int} {q : Int → Bool} (l : List Int) (h : ∀ x ∈ l, q x = true → 0 ≤ f x) : 0 ≤ sumZ f (l.takeWhile q) := by
 induction l with
 | nil => simp [sumZ_nil]
 | cons a l ih =>
  rw [List.takeWhile_cons]
  split
  · rename_i h1
    rw [sumZ_cons]
    have := h a List.mem_cons_self h1
    have := ih fun x hx => h x (List.mem_cons_of_mem _ hx)
    omega
  · simp [sumZ_nil]
theorem sum_le {f h : Int → Int} {p q : Int → Bool} (l : List Int) (h1 : ∀ x ∈ l, p x = true → q x = true ∧ f x ≤ h x) (h2 : ∀ x ∈ l, q x = true → 0 ≤ h x) : sumZ f (l.takeWhile p) ≤ sumZ h (l.takeWhile q) := by
 induction l with
 | nil => simp [sumZ_nil]
 | cons a l ih =>
  have hi := ih (fun x hx => h1 x (List.mem_cons_of_mem _ hx)) (fun x hx => h2 x (List.mem_cons_of_mem _ hx))
  by_cases hp : p a = true
  · obtain ⟨g1, g2⟩ := h1 a List.mem_cons_self hp
    rw [List.takeWhile_cons, List.takeWhile_cons, if_pos hp, if_pos g1, sumZ_cons, sumZ_cons]
    omega
  · rw [List.takeWhile_cons, if_neg hp, sumZ_nil]
    exact sum_nonneg _ h2
theorem sum_bd {f : Int → Int} (M : Int) (l : List Int) (h : ∀ x ∈ l, 0 ≤ f x ∧ f x ≤ M) : 0 ≤ sumZ f l ∧ sumZ f l ≤ M * l.length := by
 induction l with
 | nil => simp [sumZ_nil]
 | cons a l ih =>
  have h1 := h a List.mem_cons_self
  have h2 := ih fun x hx => h x (List.mem_cons_of_mem _ hx)
  rw [sumZ_cons, List.length_cons, Int.natCast_add, Int.mul_add]
  omega
/-! Quotients. -/
theorem quo_mono {a a' b b' : Int} (h0 : 0 ≤ a) (h1 : a ≤ a') (h2 : 0 < b') (h3 : b' ≤ b) : a / b ≤ a' / b' := by
 have hq : 0 ≤ a / b := Int.ediv_nonneg h0 (by omega)
 rw [Int.le_ediv_iff_mul_le h2]
 have e1 := Int.mul_le_mul_of_nonneg_left h3 hq
 have e2 := (dn_rng (a := a) (b := b) (by omega)).1
 omega
theorem upQ_nonneg {a b : Int} (h0 : 0 ≤ a) (hb : 0 < b) : 0 ≤ upQ a b := by
 have h := up_rng (a := a) hb
 rcases Int.lt_or_le (upQ a b) 0 with g | g
 · have := Int.mul_le_mul_of_nonneg_right (show upQ a b ≤ -1 by omega) (show 0 ≤ b by omega)
   omega
 · exact g
theorem up_mono {a a' b b' : Int} (h0 : 0 ≤ a) (h1 : a ≤ a') (h2 : 0 < b') (h3 : b' ≤ b) : upQ a b ≤ upQ a' b' := by
 have hq := upQ_nonneg (a := a') (by omega) h2
 have e1 := Int.mul_le_mul_of_nonneg_left h3 hq
 have e2 := (up_rng (a := a') h2).2
 have e3 := (up_rng (a := a) (b := b) (by omega)).1
 rcases Int.lt_or_le (upQ a' b') (upQ a b) with g | g
 · have := Int.mul_le_mul_of_nonneg_right (show upQ a' b' + 1 ≤ upQ a b by omega) (show 0 ≤ b by omega)
   rw [Int.add_mul] at this
   omega
 · exact g
theorem dn_le_up {a b : Int} (hb : 0 < b) : a / b ≤ upQ a b := by
 have h1 := dn_rng (a := a) hb
 have h2 := up_rng (a := a) hb
 rcases Int.lt_or_le (upQ a b) (a / b) with g | g
 · have := Int.mul_le_mul_of_nonneg_right (show upQ a b + 1 ≤ a / b by omega) (show 0 ≤ b by omega)
   rw [Int.add_mul] at this
   omega
 · exact g
theorem up_le_dn {a b : Int} (hb : 0 < b) : upQ a b ≤ a / b + 1 := by
 have h1 := dn_rng (a := a) hb
 have h2 := up_rng (a := a) hb
 rcases Int.lt_or_le (a / b + 1) (upQ a b) with g | g
 · have := Int.mul_le_mul_of_nonneg_right (show a / b + 2 ≤ upQ a b by omega) (show 0 ≤ b by omega)
   rw [Int.add_mul] at this
   omega
 · exact g
theorem dn_mono {a a' b : Int} (hb : 0 < b) (h : a ≤ a') : a / b ≤ a' / b := Int.ediv_le_ediv hb h
theorem up_mono1 {a a' b : Int} (hb : 0 < b) (h : a ≤ a') : upQ a b ≤ upQ a' b := by
 unfold upQ
 have := Int.ediv_le_ediv hb (show -a' ≤ -a by omega)
 omega
/-- what is divided in a rise -/
theorem num_mono {d d' s s' n n' S : Int} (h0 : 0 ≤ d) (h1 : d ≤ d') (h2 : 0 ≤ s) (h3 : s ≤ s') (h4 : 0 ≤ n) (h5 : n ≤ n') (hS : 0 ≤ S) : 0 ≤ d * s * s * n * S ∧ d * s * s * n * S ≤ d' * s' * s' * n' * S := by
 have e0 : 0 ≤ d * s := Int.mul_nonneg h0 h2
 have e1 : d * s ≤ d' * s' := Int.mul_le_mul h1 h3 h2 (by omega)
 have e2 : 0 ≤ d * s * s := Int.mul_nonneg e0 h2
 have e3 : d * s * s ≤ d' * s' * s' := Int.mul_le_mul e1 h3 h2 (by omega)
 have e4 : 0 ≤ d * s * s * n := Int.mul_nonneg e2 h4
 have e5 : d * s * s * n ≤ d' * s' * s' * n' := Int.mul_le_mul e3 h5 h4 (by omega)
 exact ⟨Int.mul_nonneg e4 hS, Int.mul_le_mul_of_nonneg_right e5 hS⟩
theorem n_rng (d : Nat) : 0 ≤ nLo d ∧ nLo d ≤ nHi d ∧ nHi d ≤ 142 := by
 unfold nLo nHi
 split <;> omega
/-- and that it is not too great -/
theorem num_bd {d s n S : Int} (h0 : 0 ≤ d) (h1 : d ≤ 10000) (h2 : 0 ≤ s) (h3 : s ≤ 10000) (h4 : 0 ≤ n) (h5 : n ≤ 142) (hS : 0 ≤ S) (hS2 : S ≤ 10000) :
 (0 ≤ d * s ∧ d * s ≤ 100000000) ∧ (0 ≤ d * s * s ∧ d * s * s ≤ 1000000000000) ∧ (0 ≤ d * s * s * n ∧ d * s * s * n ≤ 142000000000000) ∧ (0 ≤ d * s * s * n * S ∧ d * s * s * n * S ≤ 1420000000000000000) := by
 have e0 : 0 ≤ d * s := Int.mul_nonneg h0 h2
 have e1 : d * s ≤ 10000 * 10000 := Int.mul_le_mul h1 h3 h2 (by omega)
 have e2 : 0 ≤ d * s * s := Int.mul_nonneg e0 h2
 have e3 : d * s * s ≤ 100000000 * 10000 := Int.mul_le_mul (by omega) h3 h2 (by omega)
 have e4 : 0 ≤ d * s * s * n := Int.mul_nonneg e2 h4
 have e5 : d * s * s * n ≤ 1000000000000 * 142 := Int.mul_le_mul (by omega) h5 h4 (by omega)
 have e6 : 0 ≤ d * s * s * n * S := Int.mul_nonneg e4 hS
 have e7 : d * s * s * n * S ≤ 142000000000000 * 10000 := Int.mul_le_mul (by omega) hS2 hS (by omega)
 exact ⟨⟨e0, by omega⟩, ⟨e2, by omega⟩, ⟨e4, by omega⟩, e6, by omega⟩
/-! Rises. -/
theorem part_lo_bd {g : G} {sea : Int × Int} {m : Mo} {d : Nat} {s : Int × Int} {c : Int} (hm : moE m = 0) (hs : spOk 0 10000 s = true) (hS : 1 ≤ g.S ∧ g.S ≤ 10000) (hc : 1 ≤ (dpZ g sea c).2) :
 0 ≤ partLo g sea m d s c ∧ partLo g sea m d s c ≤ 370600000 := by
 have h1 := (spOk_iff.1 (moE_zero hm).1)
 have h2 := spOk_iff.1 hs
 have h3 := n_rng d
 have h4 := (num_bd (d := m.d.1) (s := s.1) (n := nLo d) (S := g.S) (by omega) (by omega) (by omega) (by omega) (by omega) (by omega) (by omega) (by omega)).2.2.2
 unfold partLo
 refine ⟨Int.ediv_nonneg h4.1 (by omega), ?_⟩
 have := quo_mono (b := 3832031250 * (dpZ g sea c).2) (b' := 3832031250) h4.1 h4.2 (by omega) (by omega)
 omega
theorem part_hi_bd {g : G} {sea : Int × Int} {m : Mo} {d : Nat} {s : Int × Int} {c : Int} (hm : moE m = 0) (hs : spOk 0 10000 s = true) (hS : 1 ≤ g.S ∧ g.S ≤ 10000) :
 0 ≤ partHi g sea m d s c ∧ partHi g sea m d s c ≤ 370600000 := by
 have h1 := (spOk_iff.1 (moE_zero hm).1)
 have h2 := spOk_iff.1 hs
 have h3 := n_rng d
 have h4 := (num_bd (d := m.d.2) (s := s.2) (n := nHi d) (S := g.S) (by omega) (by omega) (by omega) (by omega) (by omega) (by omega) (by omega) (by omega)).2.2.2
 unfold partHi
 refine ⟨upQ_nonneg h4.1 (by omega), ?_⟩
 have h5 := up_mono (b := 3832031250 * max (dpZ g sea c).1 1) (b' := 3832031250) h4.1 h4.2 (by omega) (by omega)
 refine Int.le_trans h5 ?_
 decide
theorem sure_dp {g : G} {sea : Int × Int} {c : Int} (h : sureB g sea c = true) : 1 ≤ (dpZ g sea c).1 := by unfold sureB at h; exact of_decide_eq_true h
theorem may_dp {g : G} {sea : Int × Int} {c : Int} (h : mayB g sea c = true) : 1 ≤ (dpZ g sea c).2 := by unfold mayB at h; exact of_decide_eq_true h
/-- whatever is within -/
structure In (g g' : G) (sea sea' : Int × Int) (m m' : Mo) : Prop where
 W : g'.W = g.W
 H : g'.H = g.H
 S : g'.S = g.S
 gr : ∀ c, Lie (grZ g' c) (grZ g c)
 sea : Lie sea' sea
 d : Lie m'.d m.d
 l : Lie m'.l m.l
theorem In.dp {g g' : G} {sea sea' : Int × Int} {m m' : Mo} (h : In g g' sea sea' m m') (c : Int) : Lie (dpZ g' sea' c) (dpZ g sea c) := by
 have h1 := h.gr c
 have h2 := h.sea
 unfold Lie dpZ at *
 simp only
 omega
theorem rise_in {g g' : G} {sea sea' : Int × Int} {m m' : Mo} (h : In g g' sea sea' m m') (hm : moE m = 0) (hS : 1 ≤ g.S ∧ g.S ≤ 10000) (c : Int) (d : Nat) {s s' : Int × Int} (hs : spOk 0 10000 s = true) (hl : Lie s' s) :
 Lie (riseZ g' sea' m' c d s') (riseZ g sea m c d s) := by
 have h1 := (spOk_iff.1 (moE_zero hm).1)
 have h2 := spOk_iff.1 hs
 have h3 := n_rng d
 have hd := h.d
 have hlm : lineZ g'.W g'.H c d = lineZ g.W g.H c d := by rw [h.W, h.H]
 have hlm' := hlm
 unfold Lie at hd hl
 unfold riseZ sureZ mayZ fetchZ
 rw [hlm]
 refine ⟨?_, ?_, ?_⟩
 · refine sum_le _ (fun x _ hx => ?_) (fun x _ hx => ?_)
   · have g1 := sure_dp hx
     have g2 := h.dp x
     unfold Lie at g2
     refine ⟨by unfold mayB; exact decide_eq_true (by omega), ?_⟩
     have k := num_mono (d := m'.d.1) (d' := m'.d.2) (s := s'.1) (s' := s'.2) (n := nLo d) (n' := nHi d) (S := g'.S) (by omega) (by omega) (by omega) (by omega) (by omega) (by omega) (by rw [h.S]; omega)
     unfold partLo partHi
     exact Int.le_trans (quo_mono (b' := 3832031250 * max (dpZ g' sea' x).1 1) k.1 k.2 (by omega) (by omega)) (dn_le_up (by omega))
   · have k := num_mono (d := m'.d.2) (d' := m'.d.2) (s := s'.2) (s' := s'.2) (n := nHi d) (n' := nHi d) (S := g'.S) (by omega) (by omega) (by omega) (by omega) (by omega) (by omega) (by rw [h.S]; omega)
     unfold partHi
     exact upQ_nonneg k.1 (by omega)
 · refine sum_le _ (fun x _ hx => ?_) (fun x _ hx => ?_)
   · have g1 := sure_dp hx
     have g2 := h.dp x
     unfold Lie at g2
     refine ⟨by unfold sureB; exact decide_eq_true (by omega), ?_⟩
     have k := num_mono (d := m.d.1) (d' := m'.d.1) (s := s.1) (s' := s'.1) (n := nLo d) (n' := nLo d) (S := g.S) (by omega) (by omega) (by omega) (by omega) (by omega) (by omega) (by omega)
     unfold partLo
     rw [h.S]
     exact quo_mono k.1 k.2 (by omega) (by omega)
   · have g1 := sure_dp hx
     have g2 := h.dp x
     unfold Lie at g2
     have k := num_mono (d := m'.d.1) (d' := m'.d.2) (s := s'.1) (s' := s'.2) (n := nLo d) (n' := nHi d) (S := g'.S) (by omega) (by omega) (by omega) (by omega) (by omega) (by omega) (by rw [h.S]; omega)
     unfold partLo
     exact Int.ediv_nonneg k.1 (by omega)
 · refine sum_le _ (fun x _ hx => ?_) (fun x _ hx => ?_)
   · have g1 := may_dp hx
     have g2 := h.dp x
     unfold Lie at g2
     refine ⟨by unfold mayB; exact decide_eq_true (by omega), ?_⟩
     have k := num_mono (d := m'.d.2) (d' := m.d.2) (s := s'.2) (s' := s.2) (n := nHi d) (n' := nHi d) (S := g.S) (by omega) (by omega) (by omega) (by omega) (by omega) (by omega) (by omega)
     unfold partHi
     rw [h.S]
     exact up_mono k.1 k.2 (by omega) (by omega)
   · have k := num_mono (d := m.d.2) (d' := m.d.2) (s := s.2) (s' := s.2) (n := nHi d) (n' := nHi d) (S := g.S) (by omega) (by omega) (by omega) (by omega) (by omega) (by omega) (by omega)
     unfold partHi
     exact upQ_nonneg k.1 (by omega)
theorem setup_in {g g' : G} {sea sea' : Int × Int} {m m' : Mo} (h : In g g' sea sea' m m') (hm : moE m = 0) (hS : 1 ≤ g.S ∧ g.S ≤ 10000) (c : Int) (d : Nat) {s s' : Int × Int} (hs : spOk 0 10000 s = true) (hl : Lie s' s) :
 Lie (setupZ g' sea' m' c d s') (setupZ g sea m c d s) := by
 have a := rise_in h hm hS c d hs hl
 have b := rise_in h hm hS c (oppZ d) hs hl
 unfold setupZ Lie at *
 simp only
 omega
/-! Hulls. -/
theorem hull_fold (l : List (Int × Int)) : ∀ a : Int × Int, (∀ x ∈ a :: l, (l.foldl (fun r s => (min r.1 s.1, max r.2 s.2)) a).1 ≤ x.1 ∧ x.2 ≤ (l.foldl (fun r s => (min r.1 s.1, max r.2 s.2)) a).2) ∧
 (∀ M, (∀ x ∈ a :: l, M ≤ x.1) → M ≤ (l.foldl (fun r s => (min r.1 s.1, max r.2 s.2)) a).1) ∧ (∀ M, (∀ x ∈ a :: l, x.2 ≤ M) → (l.foldl (fun r s => (min r.1 s.1, max r.2 s.2)) a).2 ≤ M) := by
 induction l with
 | nil => intro a; simp
 | cons b l ih =>
  intro a
  obtain ⟨h1, h2, h3⟩ := ih (min a.1 b.1, max a.2 b.2)
  simp only [List.foldl_cons]
  refine ⟨fun x hx => ?_, fun M hM => h2 M fun x hx => ?_, fun M hM => h3 M fun x hx => ?_⟩
  · have g := h1 _ List.mem_cons_self
    simp only at g
    rcases List.mem_cons.1 hx with rfl | hx
    · omega
    · rcases List.mem_cons.1 hx with rfl | hx
      · omega
      · exact h1 x (List.mem_cons_of_mem _ hx)
  · rcases List.mem_cons.1 hx with rfl | hx
    · have := hM a List.mem_cons_self
      have := hM b (List.mem_cons_of_mem _ List.mem_cons_self)
      simp only
      omega
    · exact hM x (List.mem_cons_of_mem _ (List.mem_cons_of_mem _ hx))
  · rcases List.mem_cons.1 hx with rfl | hx
    · have := hM a List.mem_cons_self
      have := hM b (List.mem_cons_of_mem _ List.mem_cons_self)
      simp only
      omega
    · exact hM x (List.mem_cons_of_mem _ (List.mem_cons_of_mem _ hx))
theorem hull_mem {l : List (Int × Int)} {x : Int × Int} (hx : x ∈ l) : (hullZ l).1 ≤ x.1 ∧ x.2 ≤ (hullZ l).2 := by
 cases l with
 | nil => cases hx
 | cons a l => exact (hull_fold l a).1 x hx
theorem hull_lo {l : List (Int × Int)} (hl : l ≠ []) {M : Int} (h : ∀ x ∈ l, M ≤ x.1) : M ≤ (hullZ l).1 := by
 cases l with
 | nil => exact absurd rfl hl
 | cons a l => exact (hull_fold l a).2.1 M h
theorem hull_hi {l : List (Int × Int)} (hl : l ≠ []) {M : Int} (h : ∀ x ∈ l, x.2 ≤ M) : (hullZ l).2 ≤ M := by
 cases l with
 | nil => exact absurd rfl hl
 | cons a l => exact (hull_fold l a).2.2 M h
theorem hull_in {l l' : List (Int × Int)} (hl : l' ≠ []) (h : ∀ x ∈ l', ∃ y ∈ l, Lie x y) : Lie (hullZ l') (hullZ l) := by
 have h1 : (hullZ l).1 ≤ (hullZ l').1 := hull_lo hl fun x hx => by
  obtain ⟨y, hy, k⟩ := h x hx
  exact Int.le_trans (hull_mem hy).1 k.2.1
 have h2 : (hullZ l').2 ≤ (hullZ l).2 := hull_hi hl fun x hx => by
  obtain ⟨y, hy, k⟩ := h x hx
  exact Int.le_trans k.2.2 (hull_mem hy).2
 refine ⟨?_, h1, h2⟩
 cases l' with
 | nil => exact absurd rfl hl
 | cons a l' =>
  have k := hull_mem (l := a :: l') List.mem_cons_self
  obtain ⟨y, _, q⟩ := h a List.mem_cons_self
  have := q.1
  omega
/-! Directions of a wind. -/
theorem dirs_mem {n : Int} {d : Nat} : d ∈ dirsZ n ↔ d < 8 ∧ bitB n d = true := by
 unfold dirsZ
 rw [List.mem_filter, List.mem_range]
theorem dirs_ne {n : Int} (h1 : 1 ≤ n) (h2 : n ≤ 255) : dirsZ n ≠ [] := by
 have h : ∀ k : Fin 256, 1 ≤ k.val → dirsZ (k.val : Int) ≠ [] := by decide +kernel
 have := h ⟨n.toNat, by omega⟩ (by simp; omega)
 simpa [show ((n.toNat : Nat) : Int) = n by omega] using this
theorem pres_in {p p' : Int × Int} (h : Lie p' p) : Lie (presZ p') (presZ p) := by
 unfold Lie at h
 refine ⟨?_, dn_mono (by omega) (by omega), up_mono1 (by omega) (by omega)⟩
 have := dn_mono (b := 981) (by omega) (show 2560 * p'.1 ≤ 2560 * p'.2 by omega)
 exact Int.le_trans this (dn_le_up (by omega))
theorem steady_in {g g' : G} {sea sea' : Int × Int} {m m' : Mo} (h : In g g' sea sea' m m') (hm : moE m = 0) (hS : 1 ≤ g.S ∧ g.S ≤ 10000) (c : Int) {w w' : Wi} (hw : wiE w = 0) (hs : Lie w'.s w.s) (hp : Lie w'.p w.p)
 (hn : 1 ≤ w'.n ∧ w'.n ≤ 255) (hd : ∀ d, d ∈ dirsZ w'.n → d ∈ dirsZ w.n) : Lie (steadyZ g' sea' m' c w') (steadyZ g sea m c w) := by
 have k1 : Lie (hullZ ((dirsZ w'.n).map fun d => setupZ g' sea' m' c d w'.s)) (hullZ ((dirsZ w.n).map fun d => setupZ g sea m c d w.s)) := by
  refine hull_in (fun e => dirs_ne hn.1 hn.2 (List.map_eq_nil_iff.1 e)) fun x hx => ?_
  obtain ⟨d, hd', rfl⟩ := List.mem_map.1 hx
  exact ⟨_, List.mem_map.2 ⟨d, hd d hd', rfl⟩, setup_in h hm hS c d (wiE_zero hw).1 hs⟩
 have k2 := pres_in hp
 unfold Lie steadyZ at *
 simp only
 omega
/-! Steps. -/
theorem step_lo_eq (a z s : Int) : z + a * (s - z) / 1024 = (1024 * z + a * (s - z)) / 1024 := by omega
theorem step_hi_eq (a z s : Int) : z + upQ (a * (s - z)) 1024 = upQ (1024 * z + a * (s - z)) 1024 := by unfold upQ; omega
theorem sel_lo {p z s a : Int × Int} (h : a.1 ≤ p.1 ∧ p.1 ≤ a.2) : (if s.1 < z.1 then a.2 else a.1) * (s.1 - z.1) ≤ p.1 * (s.1 - z.1) := by
 split
 · have := Int.mul_nonneg (show 0 ≤ a.2 - p.1 by omega) (show 0 ≤ z.1 - s.1 by omega)
   grind
 · exact Int.mul_le_mul_of_nonneg_right (by omega) (by omega)
theorem sel_hi {p z s a : Int × Int} (h : a.1 ≤ p.1 ∧ p.1 ≤ a.2) : p.1 * (s.2 - z.2) ≤ (if s.2 < z.2 then a.1 else a.2) * (s.2 - z.2) := by
 split
 · have := Int.mul_nonneg (show 0 ≤ p.1 - a.1 by omega) (show 0 ≤ z.2 - s.2 by omega)
   grind
 · exact Int.mul_le_mul_of_nonneg_right (by omega) (by omega)
theorem mix_mono {a z s z' s' : Int} (h0 : 0 ≤ a) (h1 : a ≤ 1024) (hz : z ≤ z') (hs : s ≤ s') : 1024 * z + a * (s - z) ≤ 1024 * z' + a * (s' - z') := by
 have k1 := Int.mul_nonneg (show 0 ≤ 1024 - a by omega) (show 0 ≤ z' - z by omega)
 have k2 := Int.mul_nonneg h0 (show 0 ≤ s' - s by omega)
 grind
theorem step_in {lag lag' z z' s s' : Int × Int} (hl : spOk 1 1024 lag = true) (hl' : Lie lag' lag) (hz : Lie z' z) (hs : Lie s' s) : Lie (stepZ lag' z' s') (stepZ lag z s) := by
 have h := spOk_iff.1 hl
 unfold Lie at hl' hz hs
 unfold Lie stepZ
 simp only [step_lo_eq, step_hi_eq]
 have c1 : ∀ (p : Prop) [Decidable p] (a : Int × Int), a.1 ≤ a.2 → a.1 ≤ (if p then a.2 else a.1) ∧ (if p then a.2 else a.1) ≤ a.2 := fun p _ a ha => by split <;> omega
 have c2 : ∀ (p : Prop) [Decidable p] (a : Int × Int), a.1 ≤ a.2 → a.1 ≤ (if p then a.1 else a.2) ∧ (if p then a.1 else a.2) ≤ a.2 := fun p _ a ha => by split <;> omega
 refine ⟨?_, ?_, ?_⟩
 · have q := c2 (s'.2 < z'.2) lag' (by omega)
   have k1 := sel_lo (p := ((if s'.2 < z'.2 then lag'.1 else lag'.2), 0)) (z := z') (s := s') (a := lag') q
   simp only at k1
   have k2 := mix_mono (a := if s'.2 < z'.2 then lag'.1 else lag'.2) (z := z'.1) (s := s'.1) (z' := z'.2) (s' := s'.2) (by omega) (by omega) (by omega) (by omega)
   refine Int.le_trans (dn_mono (b := 1024) (by omega) (show _ ≤ 1024 * z'.2 + (if s'.2 < z'.2 then lag'.1 else lag'.2) * (s'.2 - z'.2) by omega)) (dn_le_up (by omega))
 · have q := c1 (s'.1 < z'.1) lag' (by omega)
   have k1 := sel_lo (p := ((if s'.1 < z'.1 then lag'.2 else lag'.1), 0)) (z := z) (s := s) (a := lag) (by simp only; omega)
   simp only at k1
   have k2 := mix_mono (a := if s'.1 < z'.1 then lag'.2 else lag'.1) (z := z.1) (s := s.1) (z' := z'.1) (s' := s'.1) (by omega) (by omega) (by omega) (by omega)
   exact dn_mono (by omega) (by omega)
 · have q := c2 (s'.2 < z'.2) lag' (by omega)
   have k1 := sel_hi (p := ((if s'.2 < z'.2 then lag'.1 else lag'.2), 0)) (z := z) (s := s) (a := lag) (by simp only; omega)
   simp only at k1
   have k2 := mix_mono (a := if s'.2 < z'.2 then lag'.1 else lag'.2) (z := z'.2) (s := s'.2) (z' := z.2) (s' := s.2) (by omega) (by omega) (by omega) (by omega)
   exact up_mono1 (by omega) (by omega)
theorem levels_in {lag lag' : Int × Int} (hl : spOk 1 1024 lag = true) (hl' : Lie lag' lag) : ∀ (l l' : List (Int × Int)) (z z' : Int × Int), Lie z' z → l.length = l'.length → (∀ i (h : i < l.length) (h' : i < l'.length), Lie l'[i] l[i]) →
 ∀ i (h : i < (levelsZ lag z l).length) (h' : i < (levelsZ lag' z' l').length), Lie (levelsZ lag' z' l')[i] (levelsZ lag z l)[i] := by
 intro l
 induction l with
 | nil => intro l' z z' _ _ _ i h; simp [levelsZ] at h
 | cons s l ih =>
  intro l' z z' hz hn hs i h h'
  cases l' with
  | nil => simp at hn
  | cons s' l' =>
   have hst := step_in hl hl' hz (hs 0 (by simp) (by simp))
   simp only [List.getElem_cons_zero] at hst
   cases i with
   | zero => simpa [levelsZ] using hst
   | succ i =>
    have := ih l' _ _ hst (by simpa using hn) (fun i h1 h2 => by have := hs (i + 1) (by simp; omega) (by simp; omega); simpa using this) i (by simpa [levelsZ] using h) (by simpa [levelsZ] using h')
    simpa [levelsZ] using this
/-! A step goes from the level towards the steady one. -/
def btw (n a b : Int) : Bool := decide (min a b ≤ n ∧ n ≤ max a b)
theorem step_btw {lag z s : Int × Int} (hl : spOk 1 1024 lag = true) : btw (stepZ lag z s).1 z.1 s.1 = true ∧ btw (stepZ lag z s).2 z.2 s.2 = true := by
 have h := spOk_iff.1 hl
 unfold btw stepZ
 simp only [decide_eq_true_iff]
 have key : ∀ a x : Int, 1 ≤ a → a ≤ 1024 → (0 ≤ x → 0 ≤ a * x ∧ a * x ≤ 1024 * x) ∧ (x ≤ 0 → 1024 * x ≤ a * x ∧ a * x ≤ 0) := fun a x h1 h2 =>
  ⟨fun hx => ⟨Int.mul_nonneg (by omega) hx, Int.mul_le_mul_of_nonneg_right h2 hx⟩, fun hx => by
   have k1 := Int.mul_nonneg (show 0 ≤ 1024 - a by omega) (show 0 ≤ -x by omega)
   have k2 := Int.mul_nonneg (show 0 ≤ a by omega) (show 0 ≤ -x by omega)
   grind⟩
 unfold upQ
 constructor
 · split
   · have := (key lag.2 (s.1 - z.1) (by omega) (by omega)).2 (by omega)
     omega
   · have := (key lag.1 (s.1 - z.1) (by omega) (by omega)).1 (by omega)
     omega
 · split
   · have := (key lag.1 (s.2 - z.2) (by omega) (by omega)).2 (by omega)
     omega
   · have := (key lag.2 (s.2 - z.2) (by omega) (by omega)).1 (by omega)
     omega
theorem step_full {z s : Int × Int} : stepZ (1024, 1024) z s = s := by
 unfold stepZ upQ
 simp only [ite_self]
 ext <;> simp only <;> omega
end Go.Proofs.YtdhcdgfpkjdihaaDoor.Sg
