/-
  Layer 3: the errors, as functions on integers; the ground of a valid grid.
-/
import Derived.Test.YtdhcdgfpkjdihaaDoorVGz
import Derived.Test.YtdhcdgfpkjdihaaDoorVA3c
import Derived.Test.YtdhcdgfpkjdihaaDoorVA3d
set_option linter.unusedSimpArgs false
set_option linter.unusedVariables false
namespace Go.Proofs.YtdhcdgfpkjdihaaDoor.Sg
open Go.RowKit
def spE (a b : Int) (s : Int × Int) : Int := if spOk a b s = true then 0 else 3
def seaE (g : G) (sea : Int × Int) : Int := andE (checkE g) (spE (-20000) 20000 sea)
def groundE (g : G) (sea : Int × Int) (m : Mo) : Int := andE (seaE g sea) (moE m)
def cellE (g : G) (c : Int) : Int := if 0 ≤ c ∧ c < g.ss.length then 0 else 4
def placeE (g : G) (sea : Int × Int) (m : Mo) (c : Int) : Int := andE (groundE g sea m) (cellE g c)
def runE (z : Int × Int) (n : Int) : Int := andE (spE (-1099511627776) 1099511627776 z) (if 500 < n then 9 else 0)
def windsE : List Wi → Int
 | [] => 0
 | w :: l => andE (wiE w) (windsE l)
theorem andE_left {a b : Int} (h : ¬ a = 0) : andE a b = a := if_neg h
theorem andE_right {a b : Int} (h : a = 0) : andE a b = b := if_pos h
theorem spE_pos {a b : Int} {s : Int × Int} (h : spOk a b s = true) : spE a b s = 0 := if_pos h
theorem spE_neg {a b : Int} {s : Int × Int} (h : spOk a b s = false) : spE a b s = 3 := if_neg (by rw [h]; simp)
theorem spE_zero {a b : Int} {s : Int × Int} (h : spE a b s = 0) : spOk a b s = true := by
 unfold spE at h
 split at h
 · assumption
 · cases h
theorem windsE_snoc (l : List Wi) (w : Wi) : windsE (l ++ [w]) = andE (windsE l) (wiE w) := by
 induction l with
 | nil =>
  simp only [List.nil_append, windsE]
  unfold andE
  split <;> simp_all
 | cons a l ih =>
  simp only [List.cons_append, windsE, ih]
  unfold andE
  split <;> simp_all
theorem windsE_zero {l : List Wi} : windsE l = 0 ↔ ∀ w ∈ l, wiE w = 0 := by
 induction l with
 | nil => simp [windsE]
 | cons a l ih =>
  simp only [windsE, andE_zero, ih, List.mem_cons, forall_eq_or_imp]
theorem windsE_first {l : List Wi} {k : Nat} (hk : k < l.length) (h0 : windsE (l.take k) = 0) (h1 : ¬ wiE l[k] = 0) : windsE l = wiE l[k] := by
 induction l generalizing k with
 | nil => simp at hk
 | cons a l ih =>
  cases k with
  | zero =>
   simp only [windsE, List.getElem_cons_zero] at *
   exact andE_left h1
  | succ k =>
   simp only [List.take_succ_cons, windsE, andE_zero] at h0
   simp only [windsE, List.getElem_cons_succ] at *
   rw [andE_right h0.1]
   exact ih (by simpa using hk) h0.2 h1
/-! A valid grid. -/
theorem checkE_zero {g : G} (h : checkE g = 0) : (1 ≤ g.W ∧ g.W ≤ 24) ∧ (1 ≤ g.H ∧ g.H ≤ 24) ∧ (1 ≤ g.S ∧ g.S ≤ 10000) ∧ (g.ss.length : Int) = g.W * g.H ∧ g.ss.all (okSpan 1200000) = true := by
 unfold checkE at h
 split at h
 · rename_i h1
   split at h
   · rename_i h2
     split at h
     · rename_i h3
       have h4 := h1
       unfold rngG at h4
       simp only [decide_eq_true_iff] at h4
       exact ⟨by omega, by omega, by omega, h2, h3⟩
     · cases h
   · cases h
 · cases h
theorem gr_at {g : G} {k : Nat} (h : k < g.ss.length) : grZ g (k : Int) = g.ss[k] := by
 unfold grZ
 rw [Int.toNat_natCast, List.getD_eq_getElem?_getD, List.getElem?_eq_getElem h]
 rfl
theorem gr_out {g : G} {c : Int} (h : g.ss.length ≤ c.toNat) : grZ g c = (0, 0) := by
 unfold grZ
 rw [List.getD_eq_getElem?_getD, List.getElem?_eq_none h]
 rfl
theorem gr_ok {g : G} (h : checkE g = 0) (c : Int) : (grZ g c).1 ≤ (grZ g c).2 ∧ -1200000 ≤ (grZ g c).1 ∧ (grZ g c).2 ≤ 1200000 := by
 have h5 := (checkE_zero h).2.2.2.2
 rcases Nat.lt_or_ge c.toNat g.ss.length with k | k
 · have e : grZ g c = g.ss[c.toNat] := by
    unfold grZ
    rw [List.getD_eq_getElem?_getD, List.getElem?_eq_getElem k]
    rfl
   have := List.all_eq_true.1 h5 _ (List.getElem_mem k)
   unfold okSpan at this
   simp only [decide_eq_true_iff] at this
   rw [e]
   exact this
 · rw [gr_out k]
   simp
theorem dp_ok {g : G} {sea : Int × Int} (h : checkE g = 0) (hs : spOk (-20000) 20000 sea = true) (c : Int) : (dpZ g sea c).1 ≤ (dpZ g sea c).2 ∧ -1220000 ≤ (dpZ g sea c).1 ∧ (dpZ g sea c).2 ≤ 1220000 := by
 have h1 := gr_ok h c
 have h2 := spOk_iff.1 hs
 unfold dpZ
 simp only
 omega
theorem seaE_zero {g : G} {sea : Int × Int} (h : seaE g sea = 0) : checkE g = 0 ∧ spOk (-20000) 20000 sea = true := by
 have := andE_zero.1 h
 exact ⟨this.1, spE_zero this.2⟩
theorem placeE_zero {g : G} {sea : Int × Int} {m : Mo} {c : Int} (h : placeE g sea m c = 0) : (checkE g = 0 ∧ spOk (-20000) 20000 sea = true) ∧ moE m = 0 ∧ 0 ≤ c ∧ c < g.ss.length := by
 have h1 := andE_zero.1 h
 have h2 := andE_zero.1 h1.1
 refine ⟨seaE_zero h2.1, h2.2, ?_⟩
 have h3 := h1.2
 unfold cellE at h3
 split at h3
 · assumption
 · cases h3
theorem cellE_pos {g : G} {c : Int} (h : 0 ≤ c ∧ c < g.ss.length) : cellE g c = 0 := if_pos h
theorem cellE_neg {g : G} {c : Int} (h : ¬ (0 ≤ c ∧ c < g.ss.length)) : cellE g c = 4 := if_neg h
theorem cell_any {g : G} (h : checkE g = 0) : 1 ≤ g.ss.length := by
 obtain ⟨h1, h2, -, h4, -⟩ := checkE_zero h
 have := (mul_rng h1.1 h1.2 h2.1 h2.2).1
 omega
end Go.Proofs.YtdhcdgfpkjdihaaDoor.Sg
