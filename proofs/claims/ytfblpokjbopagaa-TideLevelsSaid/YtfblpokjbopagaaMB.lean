/-
  Layer 2, the reference's cosines as functions on integers. No program is named here.
-/
import Derived.Test.YtfblpokjbopagaaMA
set_option linter.unusedSimpArgs false
set_option linter.unusedVariables false
namespace Go.Proofs.Ytfblpokjbopagaa
open Go.RowKit

/-- numbers with 60 binary digits behind the point -/
def timesZ (a b : Int) : Int := a / 1073741824 * (b / 1073741824) + (a / 1073741824 * (b % 1073741824) + a % 1073741824 * (b / 1073741824) + a % 1073741824 * (b % 1073741824) / 1073741824) / 1073741824
theorem mul_rng {a b A B : Int} (h0 : 0 ≤ a) (h1 : a ≤ A) (k0 : 0 ≤ b) (k1 : b ≤ B) : 0 ≤ a * b ∧ a * b ≤ A * B :=
  ⟨Int.mul_nonneg h0 k0, Int.le_trans (Int.mul_le_mul_of_nonneg_right h1 k0) (Int.mul_le_mul_of_nonneg_left k1 (Int.le_trans h0 h1))⟩
theorem timesZ_le {a b : Int} (ha : 0 ≤ a) (hb : 0 ≤ b) : 0 ≤ timesZ a b ∧ timesZ a b * 1152921504606846976 ≤ a * b := by
  have e1 : a = a / 1073741824 * 1073741824 + a % 1073741824 := by omega
  have e2 : b = b / 1073741824 * 1073741824 + b % 1073741824 := by omega
  have h1 : 0 ≤ a / 1073741824 := by omega
  have h2 : 0 ≤ a % 1073741824 := by omega
  have h3 : 0 ≤ b / 1073741824 := by omega
  have h4 : 0 ≤ b % 1073741824 := by omega
  unfold timesZ
  generalize a / 1073741824 = a1 at *
  generalize a % 1073741824 = a0 at *
  generalize b / 1073741824 = b1 at *
  generalize b % 1073741824 = b0 at *
  have k1 := Int.mul_nonneg h1 h3
  have k2 := Int.mul_nonneg h1 h4
  have k3 := Int.mul_nonneg h2 h3
  have k4 := Int.mul_nonneg h2 h4
  have e : a * b = a1 * b1 * 1152921504606846976 + a1 * b0 * 1073741824 + a0 * b1 * 1073741824 + a0 * b0 := by
    rw [e1, e2]
    simp only [Int.add_mul, Int.mul_add]
    have q1 : a1 * 1073741824 * (b1 * 1073741824) = a1 * b1 * 1152921504606846976 := by
      rw [Int.mul_assoc, Int.mul_left_comm 1073741824 b1, ← Int.mul_assoc]; rfl
    have q2 : a1 * 1073741824 * b0 = a1 * b0 * 1073741824 := Int.mul_right_comm _ _ _
    have q3 : a0 * (b1 * 1073741824) = a0 * b1 * 1073741824 := (Int.mul_assoc _ _ _).symm
    omega
  rw [e]
  generalize a1 * b1 = p at *
  generalize a1 * b0 = q at *
  generalize a0 * b1 = r at *
  generalize a0 * b0 = s at *
  omega
theorem timesZ_le1 {a b : Int} (ha : 0 ≤ a) (hb : 0 ≤ b) (h1 : b ≤ 1152921504606846976) : 0 ≤ timesZ a b ∧ timesZ a b ≤ a := by
  obtain ⟨k0, k1⟩ := timesZ_le ha hb
  refine ⟨k0, ?_⟩
  have k2 : a * b ≤ a * 1152921504606846976 := Int.mul_le_mul_of_nonneg_left h1 ha
  omega
/-- a term, and the next one -/
def nextZ (x n t : Int) : Int := timesZ (timesZ t x) x / ((n + 1) * (n + 2))
theorem nextZ_le {x n t : Int} (hx : 0 ≤ x) (h1 : x ≤ 1152921504606846976) (hn : 0 ≤ n) (ht : 0 ≤ t) : 0 ≤ nextZ x n t ∧ nextZ x n t * 2 ≤ t := by
  obtain ⟨a0, a1⟩ := timesZ_le1 ht hx h1
  obtain ⟨b0, b1⟩ := timesZ_le1 a0 hx h1
  have hd : 2 ≤ (n + 1) * (n + 2) := by
    have := (mul_rng (a := 1) (A := n + 1) (b := 2) (B := n + 2) (by omega) (by omega) (by omega) (by omega)).2
    omega
  unfold nextZ
  generalize timesZ (timesZ t x) x = y at *
  generalize (n + 1) * (n + 2) = d at *
  have c0 : 0 ≤ y / d := Int.ediv_nonneg b0 (by omega)
  have c1 : y / d * d ≤ y := Int.ediv_mul_le _ (by omega)
  have c2 : y / d * 2 ≤ y / d * d := Int.mul_le_mul_of_nonneg_left hd c0
  omega
/-- the loop: as long as the term is above 0 -/
def cosLoop (x : Int) : Nat → Int → Int → Int → Int → Int
  | 0, _, _, s, _ => s
  | f + 1, n, t, s, g => if 0 < t then cosLoop x f (n + 2) (nextZ x n t) (s + g * t) (-g) else s
def angZ (k : Int) : Int := 3622009729038561421 / 1800 * k + 3622009729038561421 % 1800 * k / 1800
def cosZ (k : Int) (sine : Bool) : Int := if sine then cosLoop (angZ k) 61 1 (angZ k) 0 1 else cosLoop (angZ k) 61 0 1152921504606846976 0 1
theorem angZ_rng {k : Int} (h0 : 0 ≤ k) (h1 : k ≤ 450) : 0 ≤ angZ k ∧ angZ k ≤ 1152921504606846976 := by
  unfold angZ
  omega
/-- the cosine bounds of an integer angle -/
def quartZ (k : Int) : Int × Int :=
  if k = 0 then (65536, 65536) else if k = 600 then (32768, 32768) else if k = 900 then (0, 0) else
  let v := if k ≤ 450 then cosZ k false else cosZ (900 - k) true
  ((v - 100) / 17592186044416, (v + 100) / 17592186044416 + 1)
def foldZ (a : Int) : Int := let k := a % 3600; if 1800 < k then 3600 - k else k
def pointZ (a : Int) : Int × Int := if 900 < foldZ a then (-(quartZ (1800 - foldZ a)).2, -(quartZ (1800 - foldZ a)).1) else quartZ (foldZ a)
theorem foldZ_rng (a : Int) : 0 ≤ foldZ a ∧ foldZ a ≤ 1800 := by
  unfold foldZ
  simp only
  split <;> omega
def downZ (a b : Int) : Int := a / b
def upZ (a b : Int) : Int := -(-a / b)
def hasZ (a : Int × Int) (k : Int) : Bool := decide (upZ (a.1 - k) 3600 ≤ downZ (a.2 - k) 3600)
def boundsZ (a : Int × Int) : Int × Int :=
  (if hasZ a 1800 then -65536 else min (pointZ a.1).1 (pointZ a.2).1, if hasZ a 0 then 65536 else max (pointZ a.1).2 (pointZ a.2).2)
end Go.Proofs.Ytfblpokjbopagaa
/-
  Layer 2: the cosine bounds of the integer angles of a quarter, by the kernel's reckoning, and what follows for all.
-/
namespace Go.Proofs.Ytfblpokjbopagaa

def oneQ (k : Nat) : Bool :=
  let q := quartZ k
  let r := quartZ (k + 1)
  let p := quartZ (900 - (k : Int))
  decide (0 ≤ q.1 ∧ q.1 ≤ q.2 ∧ q.2 ≤ 65536 ∧ q.2 ≤ q.1 + 1) && (decide (q.1 = q.2) == (k == 0 || k == 600 || k == 900)) && decide (q.1 * q.1 + p.1 * p.1 ≤ 4294967296 ∧ 4294967296 ≤ q.2 * q.2 + p.2 * p.2) && (k == 900 || decide (r.1 ≤ q.1 ∧ r.2 ≤ q.2 ∧ q.2 ≤ r.1 + 119))
theorem quart_tab : ((List.range 901).all oneQ) = true := by decide +kernel
theorem quart_one {k : Int} (h0 : 0 ≤ k) (h1 : k ≤ 900) : oneQ k.toNat = true := List.all_eq_true.1 quart_tab _ (List.mem_range.2 (by omega))
theorem quart_rng {k : Int} (h0 : 0 ≤ k) (h1 : k ≤ 900) : 0 ≤ (quartZ k).1 ∧ (quartZ k).1 ≤ (quartZ k).2 ∧ (quartZ k).2 ≤ 65536 ∧ (quartZ k).2 ≤ (quartZ k).1 + 1 := by
  have h := quart_one h0 h1
  unfold oneQ at h
  simp only [Bool.and_eq_true] at h
  have h2 := of_decide_eq_true h.1.1.1
  rw [Int.toNat_of_nonneg h0] at h2
  exact h2
theorem quart_exact {k : Int} (h0 : 0 ≤ k) (h1 : k ≤ 900) : (quartZ k).1 = (quartZ k).2 ↔ k = 0 ∨ k = 600 ∨ k = 900 := by
  have h := quart_one h0 h1
  unfold oneQ at h
  simp only [Bool.and_eq_true] at h
  have h2 := beq_iff_eq.1 h.1.1.2
  rw [Int.toNat_of_nonneg h0] at h2
  rw [← decide_eq_true_iff (p := (quartZ k).1 = (quartZ k).2), h2]
  simp only [Bool.or_eq_true, beq_iff_eq]
  omega
theorem quart_sq {k : Int} (h0 : 0 ≤ k) (h1 : k ≤ 900) : (quartZ k).1 * (quartZ k).1 + (quartZ (900 - k)).1 * (quartZ (900 - k)).1 ≤ 4294967296 ∧ 4294967296 ≤ (quartZ k).2 * (quartZ k).2 + (quartZ (900 - k)).2 * (quartZ (900 - k)).2 := by
  have h := quart_one h0 h1
  unfold oneQ at h
  simp only [Bool.and_eq_true] at h
  have h2 := of_decide_eq_true h.1.2
  rw [Int.toNat_of_nonneg h0] at h2
  exact h2
theorem quart_step {k : Int} (h0 : 0 ≤ k) (h1 : k < 900) : (quartZ (k + 1)).1 ≤ (quartZ k).1 ∧ (quartZ (k + 1)).2 ≤ (quartZ k).2 ∧ (quartZ k).2 ≤ (quartZ (k + 1)).1 + 119 := by
  have h := quart_one h0 (by omega)
  unfold oneQ at h
  simp only [Bool.and_eq_true, Bool.or_eq_true] at h
  have h2 : decide ((quartZ ((k.toNat : Int) + 1)).1 ≤ (quartZ (k.toNat : Int)).1 ∧ (quartZ ((k.toNat : Int) + 1)).2 ≤ (quartZ (k.toNat : Int)).2 ∧ (quartZ (k.toNat : Int)).2 ≤ (quartZ ((k.toNat : Int) + 1)).1 + 119) = true := h.2.resolve_left (by rw [beq_iff_eq]; omega)
  have h3 := of_decide_eq_true h2
  rw [Int.toNat_of_nonneg h0] at h3
  exact h3
theorem quart_0 : quartZ 0 = (65536, 65536) := rfl
theorem quart_900 : quartZ 900 = (0, 0) := rfl

/-! A half turn: angles from 0 to 1800. -/
def halfZ (k : Int) : Int × Int := if 900 < k then (-(quartZ (1800 - k)).2, -(quartZ (1800 - k)).1) else quartZ k
theorem point_half (a : Int) : pointZ a = halfZ (foldZ a) := rfl
theorem half_rng {k : Int} (h0 : 0 ≤ k) (h1 : k ≤ 1800) : -65536 ≤ (halfZ k).1 ∧ (halfZ k).1 ≤ (halfZ k).2 ∧ (halfZ k).2 ≤ 65536 ∧ (halfZ k).2 ≤ (halfZ k).1 + 1 := by
  unfold halfZ
  split
  · have := quart_rng (k := 1800 - k) (by omega) (by omega)
    simp only
    omega
  · have := quart_rng h0 (by omega)
    omega
theorem half_exact {k : Int} (h0 : 0 ≤ k) (h1 : k ≤ 1800) : (halfZ k).1 = (halfZ k).2 ↔ k = 0 ∨ k = 600 ∨ k = 900 ∨ k = 1200 ∨ k = 1800 := by
  unfold halfZ
  split
  · have := quart_exact (k := 1800 - k) (by omega) (by omega)
    simp only
    omega
  · have := quart_exact h0 (by omega)
    omega
theorem half_back {k : Int} (h0 : 0 ≤ k) (h1 : k ≤ 1800) : halfZ (1800 - k) = (-(halfZ k).2, -(halfZ k).1) := by
  unfold halfZ
  rcases Int.lt_trichotomy k 900 with h | h | h
  · rw [if_pos (by omega), if_neg (by omega), show 1800 - (1800 - k) = k by omega]
  · subst h; rfl
  · rw [if_neg (by omega), if_pos h]
    simp
theorem half_step {k : Int} (h0 : 0 ≤ k) (h1 : k < 1800) : (halfZ (k + 1)).1 ≤ (halfZ k).1 ∧ (halfZ (k + 1)).2 ≤ (halfZ k).2 ∧ (halfZ k).2 ≤ (halfZ (k + 1)).1 + 119 := by
  unfold halfZ
  rcases Int.lt_trichotomy k 900 with h | h | h
  · rw [if_neg (by omega), if_neg (by omega)]
    exact quart_step h0 h
  · subst h
    have := quart_step (k := 899) (by omega) (by omega)
    rw [if_pos (by omega), if_neg (by omega)]
    have e := quart_900
    simp only [show (899 : Int) + 1 = 900 by omega, show (1800 : Int) - (900 + 1) = 899 by omega, e] at this ⊢
    have := quart_rng (k := 899) (by omega) (by omega)
    omega
  · rw [if_pos (by omega), if_pos h]
    have := quart_step (k := 1800 - (k + 1)) (by omega) (by omega)
    rw [show 1800 - (k + 1) + 1 = 1800 - k by omega] at this
    simp only
    omega
theorem half_anti {j k : Int} (h0 : 0 ≤ j) (h1 : j ≤ k) (h2 : k ≤ 1800) : (halfZ k).1 ≤ (halfZ j).1 ∧ (halfZ k).2 ≤ (halfZ j).2 := by
  obtain ⟨n, rfl⟩ : ∃ n : Nat, k = j + n := ⟨(k - j).toNat, by omega⟩
  induction n with
  | zero => simp
  | succ n ih =>
    have a := ih (by omega) (by omega)
    have b := half_step (k := j + n) (by omega) (by omega)
    rw [show j + ((n + 1 : Nat) : Int) = j + n + 1 by omega]
    omega
theorem half_0 : halfZ 0 = (65536, 65536) := rfl
theorem half_1800 : halfZ 1800 = (-65536, -65536) := rfl

/-! All angles. -/
theorem fold_neg (a : Int) : foldZ (-a) = foldZ a := by
  unfold foldZ
  simp only
  split <;> split <;> omega
theorem fold_turn (a : Int) : foldZ (a + 3600) = foldZ a := by
  unfold foldZ
  simp only
  rw [Int.add_emod_right]
theorem fold_turns (a n : Int) : foldZ (a + 3600 * n) = foldZ a := by
  unfold foldZ
  simp only
  rw [Int.add_mul_emod_self_left]
theorem fold_half (a : Int) : foldZ (a + 1800) = 1800 - foldZ a := by
  unfold foldZ
  simp only
  split <;> split <;> omega
theorem point_neg (a : Int) : pointZ (-a) = pointZ a := by rw [point_half, point_half, fold_neg]
theorem point_turn (a : Int) : pointZ (a + 3600) = pointZ a := by rw [point_half, point_half, fold_turn]
theorem point_opp (a : Int) : pointZ (a + 1800) = (-(pointZ a).2, -(pointZ a).1) := by
  have := foldZ_rng a
  rw [point_half, point_half, fold_half, half_back (by omega) (by omega)]
theorem point_rng (a : Int) : -65536 ≤ (pointZ a).1 ∧ (pointZ a).1 ≤ (pointZ a).2 ∧ (pointZ a).2 ≤ 65536 ∧ (pointZ a).2 ≤ (pointZ a).1 + 1 := by
  have := foldZ_rng a
  rw [point_half]
  exact half_rng (by omega) (by omega)
theorem point_exact (a : Int) : (pointZ a).1 = (pointZ a).2 ↔ a % 600 = 0 ∨ a % 900 = 0 := by
  have := foldZ_rng a
  rw [point_half, half_exact (by omega) (by omega)]
  unfold foldZ
  simp only
  split <;> omega
end Go.Proofs.Ytfblpokjbopagaa
