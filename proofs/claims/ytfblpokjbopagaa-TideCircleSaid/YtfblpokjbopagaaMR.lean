/-
  Layer 2: squares of the bounds of an angle and of its sine.
-/
import Derived.Test.YtfblpokjbopagaaMI
import Derived.Test.YtfblpokjbopagaaMC
set_option linter.unusedSimpArgs false
set_option linter.unusedVariables false
namespace Go.Proofs.Ytfblpokjbopagaa

def qi (a : Int) : Int := if 900 < foldZ a then 1800 - foldZ a else foldZ a
theorem qi_rng (a : Int) : 0 ≤ qi a ∧ qi a ≤ 900 := by
  have := foldZ_rng a
  unfold qi
  split <;> omega
theorem qi_sin (a : Int) : qi (a - 900) = 900 - qi a := by
  unfold qi foldZ
  simp only
  split <;> split <;> split <;> split <;> omega
theorem sq_pos {lo hi : Int} (h0 : 0 ≤ lo) (h1 : lo ≤ hi) : squareZ (lo, hi) = (lo * lo, hi * hi) := by
  have a1 : lo * lo ≤ lo * hi := Int.mul_le_mul_of_nonneg_left h1 h0
  have a2 : lo * hi ≤ hi * hi := Int.mul_le_mul_of_nonneg_right h1 (by omega)
  have a3 : hi * lo = lo * hi := Int.mul_comm _ _
  unfold squareZ prodZ
  simp only
  refine Prod.ext ?_ ?_
  · simp only
    split
    · obtain rfl : lo = 0 := by omega
      simp
    · omega
  · simp only
    omega
theorem sq_neg {lo hi : Int} (h0 : 0 ≤ lo) (h1 : lo ≤ hi) : squareZ (-hi, -lo) = (lo * lo, hi * hi) := by
  have a1 : lo * lo ≤ lo * hi := Int.mul_le_mul_of_nonneg_left h1 h0
  have a2 : lo * hi ≤ hi * hi := Int.mul_le_mul_of_nonneg_right h1 (by omega)
  have a3 : hi * lo = lo * hi := Int.mul_comm _ _
  unfold squareZ prodZ
  simp only [Int.neg_mul_neg]
  refine Prod.ext ?_ ?_
  · simp only
    split
    · obtain rfl : lo = 0 := by omega
      simp
    · omega
  · simp only
    omega
theorem sq_point (a : Int) : squareZ (pointZ a) = ((quartZ (qi a)).1 * (quartZ (qi a)).1, (quartZ (qi a)).2 * (quartZ (qi a)).2) := by
  have hr := quart_rng (qi_rng a).1 (qi_rng a).2
  by_cases h : 900 < foldZ a
  · have e : qi a = 1800 - foldZ a := if_pos h
    have e2 : pointZ a = (-(quartZ (1800 - foldZ a)).2, -(quartZ (1800 - foldZ a)).1) := if_pos h
    rw [e] at hr ⊢
    rw [e2]
    exact sq_neg hr.1 hr.2.1
  · have e : qi a = foldZ a := if_neg h
    have e2 : pointZ a = quartZ (foldZ a) := if_neg h
    rw [e] at hr ⊢
    rw [e2]
    exact sq_pos hr.1 hr.2.1
theorem sq_sum (x : Int) : (squareZ (pointZ x)).1 + (squareZ (pointZ (x - 900))).1 ≤ 4294967296 ∧ 4294967296 ≤ (squareZ (pointZ x)).2 + (squareZ (pointZ (x - 900))).2 := by
  rw [sq_point, sq_point, qi_sin]
  exact quart_sq (qi_rng x).1 (qi_rng x).2
theorem sq_rng (x : Int) : 0 ≤ (squareZ (pointZ x)).1 ∧ (squareZ (pointZ x)).1 ≤ 4294967296 ∧ 0 ≤ (squareZ (pointZ x)).2 ∧ (squareZ (pointZ x)).2 ≤ 4294967296 := by
  rw [sq_point]
  have hr := quart_rng (qi_rng x).1 (qi_rng x).2
  have m1 := mul_rng (A := 65536) (B := 65536) hr.1 (by omega) hr.1 (by omega)
  have m2 := mul_rng (a := (quartZ (qi x)).2) (b := (quartZ (qi x)).2) (A := 65536) (B := 65536) (by omega) (by omega) (by omega) (by omega)
  simp only
  omega
theorem prod_rng {a b : Int × Int} (ha : -65536 ≤ a.1 ∧ a.1 ≤ a.2 ∧ a.2 ≤ 65536) (hb : -65536 ≤ b.1 ∧ b.1 ≤ b.2 ∧ b.2 ≤ 65536) : -4294967296 ≤ (prodZ a b).1 ∧ (prodZ a b).1 ≤ 4294967296 ∧ -4294967296 ≤ (prodZ a b).2 ∧ (prodZ a b).2 ≤ 4294967296 := by
  have m1 := mul_abs (u := a.1) (v := b.1) (U := 65536) (V := 65536) (by omega) (by omega) (by omega) (by omega)
  have m2 := mul_abs (u := a.1) (v := b.2) (U := 65536) (V := 65536) (by omega) (by omega) (by omega) (by omega)
  have m3 := mul_abs (u := a.2) (v := b.1) (U := 65536) (V := 65536) (by omega) (by omega) (by omega) (by omega)
  have m4 := mul_abs (u := a.2) (v := b.2) (U := 65536) (V := 65536) (by omega) (by omega) (by omega) (by omega)
  unfold prodZ
  simp only
  omega
end Go.Proofs.Ytfblpokjbopagaa
/-
  Layer 2: the bounds of a span are the least and the greatest ones of its angles.
-/
namespace Go.Proofs.Ytfblpokjbopagaa

def mnP (x : Int) : Nat → Int
  | 0 => 131072
  | k + 1 => min (mnP x k) (pointZ (x + k)).1
def mxP (x : Int) : Nat → Int
  | 0 => -131072
  | k + 1 => max (mxP x k) (pointZ (x + k)).2
theorem mnP_le (x : Int) {k i : Nat} (h : i < k) : mnP x k ≤ (pointZ (x + i)).1 := by
  induction k with
  | zero => omega
  | succ k ih =>
    unfold mnP
    by_cases e : i = k
    · subst e; omega
    · have := ih (by omega); omega
theorem mnP_ge (x b : Int) {k : Nat} (h : ∀ i : Nat, i < k → b ≤ (pointZ (x + i)).1) (hb : b ≤ 131072) : b ≤ mnP x k := by
  induction k with
  | zero => exact hb
  | succ k ih =>
    unfold mnP
    have h1 := ih (fun i hi => h i (by omega))
    have h2 := h k (by omega)
    omega
theorem mxP_ge (x : Int) {k i : Nat} (h : i < k) : (pointZ (x + i)).2 ≤ mxP x k := by
  induction k with
  | zero => omega
  | succ k ih =>
    unfold mxP
    by_cases e : i = k
    · subst e; omega
    · have := ih (by omega); omega
theorem mxP_le (x b : Int) {k : Nat} (h : ∀ i : Nat, i < k → (pointZ (x + i)).2 ≤ b) (hb : -131072 ≤ b) : mxP x k ≤ b := by
  induction k with
  | zero => exact hb
  | succ k ih =>
    unfold mxP
    have h1 := ih (fun i hi => h i (by omega))
    have h2 := h k (by omega)
    omega
theorem mnP_bounds (x : Int) (n K : Nat) (hK : K = n + 1 ∨ (K = 3601 ∧ 3600 ≤ n)) (hKn : K ≤ n + 1) : mnP x K = (boundsZ (x, x + n)).1 ∧ mxP x K = (boundsZ (x, x + n)).2 := by
  have hr := bounds_rng (a := (x, x + n)) (by simp only; omega)
  refine ⟨?_, ?_⟩
  · obtain ⟨k, h0, h1, h2, h3⟩ := bounds_has1 (a := (x, x + n)) (by simp only; omega)
    simp only at h0 h1 h2
    have a1 := mnP_le x (k := K) (i := (k - x).toNat) (by omega)
    rw [show x + ((k - x).toNat : Int) = k by omega, h3] at a1
    have a2 := mnP_ge x (boundsZ (x, x + n)).1 (k := K) (fun i hi => (bounds_all (a := (x, x + n)) (by simp only; omega) (by simp only; omega)).1) (by omega)
    omega
  · obtain ⟨k, h0, h1, h2, h3⟩ := bounds_has2 (a := (x, x + n)) (by simp only; omega)
    simp only at h0 h1 h2
    have a1 := mxP_ge x (k := K) (i := (k - x).toNat) (by omega)
    rw [show x + ((k - x).toNat : Int) = k by omega, h3] at a1
    have a2 := mxP_le x (boundsZ (x, x + n)).2 (k := K) (fun i hi => (bounds_all (a := (x, x + n)) (by simp only; omega) (by simp only; omega)).2) (by omega)
    omega
end Go.Proofs.Ytfblpokjbopagaa
