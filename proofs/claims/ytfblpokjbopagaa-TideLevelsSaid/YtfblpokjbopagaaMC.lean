/-
  Layer 2: cosines of 60 binary digits turn as those of a circle do: the theorem of addition, within bounds.
-/
import Derived.Test.YtfblpokjbopagaaMB
set_option linter.unusedSimpArgs false
set_option linter.unusedVariables false
namespace Go.Proofs.Ytfblpokjbopagaa

def c60 (k : Int) : Int := if k ≤ 450 then cosZ k false else cosZ (900 - k) true
def cosA (a : Int) : Int := if 900 < foldZ a then -(c60 (1800 - foldZ a)) else c60 (foldZ a)
def sinA (a : Int) : Int := cosA (a - 900)
def rotOne (k : Nat) : Bool :=
  let c := c60 k
  let s := c60 (900 - k)
  let p := c * 1152919748607422983 - s * 2012226605644487 - c60 (k + 1) * 1152921504606846976
  let q := s * 1152919748607422983 + c * 2012226605644487 - c60 (899 - k) * 1152921504606846976
  decide (-9223372036854775808 ≤ p ∧ p ≤ 9223372036854775808 ∧ -9223372036854775808 ≤ q ∧ q ≤ 9223372036854775808)
theorem rot_tab : ((List.range 900).all rotOne) = true := by decide +kernel
def nearOne (k : Nat) : Bool :=
  let c := c60 k
  let q := quartZ k
  decide (0 ≤ c ∧ c ≤ 1152921504606846976 ∧ q.1 * 17592186044416 - 2 ≤ c ∧ c ≤ q.2 * 17592186044416 + 2)
theorem near_tab : ((List.range 901).all nearOne) = true := by decide +kernel
theorem c60_near {k : Int} (h0 : 0 ≤ k) (h1 : k ≤ 900) : 0 ≤ c60 k ∧ c60 k ≤ 1152921504606846976 ∧ (quartZ k).1 * 17592186044416 - 2 ≤ c60 k ∧ c60 k ≤ (quartZ k).2 * 17592186044416 + 2 := by
  have h : nearOne k.toNat = true := List.all_eq_true.1 near_tab _ (List.mem_range.2 (by omega))
  unfold nearOne at h
  have h2 := of_decide_eq_true h
  rw [Int.toNat_of_nonneg h0] at h2
  exact h2
theorem c60_900 : c60 900 = 0 := by decide +kernel
theorem c60_0 : c60 0 = 1152921504606846976 := by decide +kernel
theorem cosA_near (a : Int) : -1152921504606846976 ≤ cosA a ∧ cosA a ≤ 1152921504606846976 ∧ (pointZ a).1 * 17592186044416 - 2 ≤ cosA a ∧ cosA a ≤ (pointZ a).2 * 17592186044416 + 2 := by
  have hf := foldZ_rng a
  unfold cosA pointZ
  split
  · have := c60_near (k := 1800 - foldZ a) (by omega) (by omega)
    simp only
    omega
  · have := c60_near (k := foldZ a) (by omega) (by omega)
    omega
theorem cosA_turns (a n : Int) : cosA (a + 3600 * n) = cosA a := by unfold cosA; rw [fold_turns]
theorem cosA_half (a : Int) : cosA (a + 1800) = -cosA a := by
  have hf := foldZ_rng a
  unfold cosA
  rw [fold_half]
  rcases Int.lt_trichotomy (foldZ a) 900 with h | h | h
  · rw [if_pos (by omega), if_neg (by omega), show 1800 - (1800 - foldZ a) = foldZ a by omega]
  · rw [h, if_neg (by omega), if_neg (by omega), show (1800 : Int) - 900 = 900 by omega, c60_900]; rfl
  · rw [if_neg (by omega), if_pos h]; omega
theorem sinA_90 (a : Int) : sinA (a + 900) = cosA a := by unfold sinA; rw [show a + 900 - 900 = a by omega]
theorem cosA_90 (a : Int) : cosA (a + 900) = -sinA a := by
  unfold sinA
  rw [← cosA_half, show a - 900 + 1800 = a + 900 by omega]
theorem cosA_q {k : Int} (h0 : 0 ≤ k) (h1 : k ≤ 900) : cosA k = c60 k := by
  have hf : foldZ k = k := by unfold foldZ; simp only; split <;> omega
  unfold cosA
  rw [hf, if_neg (by omega)]
theorem sinA_q {k : Int} (h0 : 0 ≤ k) (h1 : k ≤ 900) : sinA k = c60 (900 - k) := by
  have hf : foldZ (k - 900) = 900 - k := by unfold foldZ; simp only; split <;> omega
  unfold sinA cosA
  rw [hf, if_neg (by omega)]
/-- the turn by one -/
def RotP (a : Int) : Prop :=
  (-9223372036854775808 ≤ cosA a * 1152919748607422983 - sinA a * 2012226605644487 - cosA (a + 1) * 1152921504606846976 ∧ cosA a * 1152919748607422983 - sinA a * 2012226605644487 - cosA (a + 1) * 1152921504606846976 ≤ 9223372036854775808) ∧
  (-9223372036854775808 ≤ sinA a * 1152919748607422983 + cosA a * 2012226605644487 - sinA (a + 1) * 1152921504606846976 ∧ sinA a * 1152919748607422983 + cosA a * 2012226605644487 - sinA (a + 1) * 1152921504606846976 ≤ 9223372036854775808)
theorem rot_q {k : Int} (h0 : 0 ≤ k) (h1 : k < 900) : RotP k := by
  have h : rotOne k.toNat = true := List.all_eq_true.1 rot_tab _ (List.mem_range.2 (by omega))
  unfold rotOne at h
  have h2 := of_decide_eq_true h
  rw [Int.toNat_of_nonneg h0] at h2
  unfold RotP
  rw [cosA_q h0 (by omega), sinA_q h0 (by omega), cosA_q (by omega) (by omega), sinA_q (by omega) (by omega), show 900 - (k + 1) = 899 - k by omega]
  exact ⟨⟨h2.1, h2.2.1⟩, h2.2.2⟩
theorem rot_90 {a : Int} (h : RotP a) : RotP (a + 900) := by
  unfold RotP at *
  rw [cosA_90, sinA_90, show a + 900 + 1 = a + 1 + 900 by omega, cosA_90, sinA_90]
  omega
theorem rot_turns {a : Int} (n : Int) (h : RotP a) : RotP (a + 3600 * n) := by
  unfold RotP sinA at *
  rw [show a + 3600 * n - 900 = a - 900 + 3600 * n by omega, show a + 3600 * n + 1 = a + 1 + 3600 * n by omega, show a + 1 + 3600 * n - 900 = a + 1 - 900 + 3600 * n by omega, cosA_turns, cosA_turns, cosA_turns, cosA_turns]
  exact h
theorem rot_any (a : Int) : RotP a := by
  obtain ⟨m, j, k, e, j0, j1, k0, k1⟩ : ∃ m j k : Int, a = k + 900 * j + 3600 * m ∧ 0 ≤ j ∧ j ≤ 3 ∧ 0 ≤ k ∧ k < 900 := ⟨a / 3600, a % 3600 / 900, a % 900, by omega, by omega, by omega, by omega, by omega⟩
  rw [e]
  refine rot_turns m ?_
  have r0 := rot_q k0 k1
  have r1 := rot_90 r0
  have r2 := rot_90 r1
  have r3 := rot_90 r2
  obtain rfl | rfl | rfl | rfl : j = 0 ∨ j = 1 ∨ j = 2 ∨ j = 3 := by omega
  · rw [show k + 900 * 0 = k by omega]; exact r0
  · rw [show k + 900 * 1 = k + 900 by omega]; exact r1
  · rw [show k + 900 * 2 = k + 900 + 900 by omega]; exact r2
  · rw [show k + 900 * 3 = k + 900 + 900 + 900 by omega]; exact r3

theorem mul_abs {u v U V : Int} (h0 : -U ≤ u) (h1 : u ≤ U) (k0 : -V ≤ v) (k1 : v ≤ V) : -(U * V) ≤ u * v ∧ u * v ≤ U * V := by
  have a1 : u.natAbs ≤ U.toNat := by omega
  have a2 : v.natAbs ≤ V.toNat := by omega
  have a3 := Nat.mul_le_mul a1 a2
  rw [← Int.natAbs_mul] at a3
  have a4 : ((U.toNat * V.toNat : Nat) : Int) = U * V := by
    rw [Int.natCast_mul, Int.toNat_of_nonneg (by omega), Int.toNat_of_nonneg (by omega)]
  omega
/-- the theorem of addition, within e times 2^60 -/
def AddP (e x y : Int) : Prop :=
  (-(1152921504606846976 * e) ≤ cosA x * cosA y - sinA x * sinA y - cosA (x + y) * 1152921504606846976 ∧ cosA x * cosA y - sinA x * sinA y - cosA (x + y) * 1152921504606846976 ≤ 1152921504606846976 * e) ∧
  (-(1152921504606846976 * e) ≤ sinA x * cosA y + cosA x * sinA y - sinA (x + y) * 1152921504606846976 ∧ sinA x * cosA y + cosA x * sinA y - sinA (x + y) * 1152921504606846976 ≤ 1152921504606846976 * e)
theorem add_alg (Cx Sx Cy Sy C1 S1 Cxy Sxy r s r2 o p q Cy1 Sy1 Cxy1 : Int) (hp : Cx * Cy - Sx * Sy - Cxy * o = p) (hq : Sx * Cy + Cx * Sy - Sxy * o = q) (hr : Cy * C1 - Sy * S1 - Cy1 * o = r) (hs : Sy * C1 + Cy * S1 - Sy1 * o = s) (hr2 : Cxy * C1 - Sxy * S1 - Cxy1 * o = r2) :
    o * (Cx * Cy1 - Sx * Sy1 - Cxy1 * o) = C1 * p - S1 * q - Cx * r + Sx * s + o * r2 := by grind
theorem add_alg2 (Cx Sx Cy Sy C1 S1 Cxy Sxy r s s2 o p q Cy1 Sy1 Sxy1 : Int) (hp : Cx * Cy - Sx * Sy - Cxy * o = p) (hq : Sx * Cy + Cx * Sy - Sxy * o = q) (hr : Cy * C1 - Sy * S1 - Cy1 * o = r) (hs : Sy * C1 + Cy * S1 - Sy1 * o = s) (hs2 : Sxy * C1 + Cxy * S1 - Sxy1 * o = s2) :
    o * (Sx * Cy1 + Cx * Sy1 - Sxy1 * o) = C1 * q + S1 * p - Sx * r - Cx * s + o * s2 := by grind
theorem sinA_near (a : Int) : -1152921504606846976 ≤ sinA a ∧ sinA a ≤ 1152921504606846976 := ⟨(cosA_near (a - 900)).1, (cosA_near (a - 900)).2.1⟩
theorem add_step {e x y : Int} (he : 0 ≤ e) (h : AddP e x y) : AddP (e + e / 512 + 25) x (y + 1) := by
  obtain ⟨⟨p0, p1⟩, q0, q1⟩ := h
  obtain ⟨⟨r0, r1⟩, s0, s1⟩ := rot_any y
  obtain ⟨⟨t0, t1⟩, u0, u1⟩ := rot_any (x + y)
  obtain ⟨c0, c1, _⟩ := cosA_near x
  obtain ⟨d0, d1⟩ := sinA_near x
  have k1 := add_alg _ _ _ _ _ _ _ _ _ _ _ _ _ _ _ _ _ (rfl : cosA x * cosA y - sinA x * sinA y - cosA (x + y) * 1152921504606846976 = _) (rfl : sinA x * cosA y + cosA x * sinA y - sinA (x + y) * 1152921504606846976 = _) (rfl : cosA y * 1152919748607422983 - sinA y * 2012226605644487 - cosA (y + 1) * 1152921504606846976 = _) (rfl : sinA y * 1152919748607422983 + cosA y * 2012226605644487 - sinA (y + 1) * 1152921504606846976 = _) (rfl : cosA (x + y) * 1152919748607422983 - sinA (x + y) * 2012226605644487 - cosA (x + y + 1) * 1152921504606846976 = _)
  have k2 := add_alg2 _ _ _ _ _ _ _ _ _ _ _ _ _ _ _ _ _ (rfl : cosA x * cosA y - sinA x * sinA y - cosA (x + y) * 1152921504606846976 = _) (rfl : sinA x * cosA y + cosA x * sinA y - sinA (x + y) * 1152921504606846976 = _) (rfl : cosA y * 1152919748607422983 - sinA y * 2012226605644487 - cosA (y + 1) * 1152921504606846976 = _) (rfl : sinA y * 1152919748607422983 + cosA y * 2012226605644487 - sinA (y + 1) * 1152921504606846976 = _) (rfl : sinA (x + y) * 1152919748607422983 + cosA (x + y) * 2012226605644487 - sinA (x + y + 1) * 1152921504606846976 = _)
  have m1 := mul_abs c0 c1 r0 r1
  have m2 := mul_abs d0 d1 s0 s1
  have m3 := mul_abs d0 d1 r0 r1
  have m4 := mul_abs c0 c1 s0 s1
  unfold AddP
  rw [show x + (y + 1) = x + y + 1 by omega]
  generalize cosA x * cosA y - sinA x * sinA y - cosA (x + y) * 1152921504606846976 = p at *
  generalize sinA x * cosA y + cosA x * sinA y - sinA (x + y) * 1152921504606846976 = q at *
  generalize cosA y * 1152919748607422983 - sinA y * 2012226605644487 - cosA (y + 1) * 1152921504606846976 = r at *
  generalize sinA y * 1152919748607422983 + cosA y * 2012226605644487 - sinA (y + 1) * 1152921504606846976 = s at *
  generalize cosA (x + y) * 1152919748607422983 - sinA (x + y) * 2012226605644487 - cosA (x + y + 1) * 1152921504606846976 = t at *
  generalize sinA (x + y) * 1152919748607422983 + cosA (x + y) * 2012226605644487 - sinA (x + y + 1) * 1152921504606846976 = u at *
  generalize cosA x * r = m1' at *
  generalize sinA x * s = m2' at *
  generalize sinA x * r = m3' at *
  generalize cosA x * s = m4' at *
  generalize cosA x * cosA (y + 1) - sinA x * sinA (y + 1) - cosA (x + y + 1) * 1152921504606846976 = P at *
  generalize sinA x * cosA (y + 1) + cosA x * sinA (y + 1) - sinA (x + y + 1) * 1152921504606846976 = R at *
  omega
def dB : Nat → Int
  | 0 => 0
  | n + 1 => dB n + dB n / 512 + 25
theorem dB_nn : ∀ n, 0 ≤ dB n
  | 0 => Int.le_refl _
  | n + 1 => by have := dB_nn n; unfold dB; omega
theorem dB_mono {m n : Nat} (h : m ≤ n) : dB m ≤ dB n := by
  induction n with
  | zero => rw [Nat.le_zero.1 h]; exact Int.le_refl _
  | succ n ih =>
    by_cases e : m = n + 1
    · rw [e]; exact Int.le_refl _
    · have a := ih (by omega)
      have b := dB_nn n
      have c : dB (n + 1) = dB n + dB n / 512 + 25 := rfl
      omega
theorem dB_900 : dB 900 ≤ 70000 := by decide +kernel
theorem add_q (x : Int) : ∀ n : Nat, AddP (dB n) x n
  | 0 => by
    unfold AddP
    have e1 : cosA ((0 : Nat) : Int) = 1152921504606846976 := (cosA_q (by omega) (by omega)).trans c60_0
    have e2 : sinA ((0 : Nat) : Int) = 0 := (sinA_q (by omega) (by omega)).trans c60_900
    rw [e1, e2, show x + ((0 : Nat) : Int) = x by omega]
    simp only [dB]
    omega
  | n + 1 => by
    have h := add_step (dB_nn n) (add_q x n)
    exact h
theorem add_mono {e e' x y : Int} (h : AddP e x y) (he : e ≤ e') : AddP e' x y := by
  unfold AddP at *
  omega
theorem add_90 {e x y : Int} (h : AddP e x y) : AddP e x (y + 900) := by
  unfold AddP at *
  rw [cosA_90, sinA_90, show x + (y + 900) = x + y + 900 by omega, cosA_90, sinA_90]
  have e1 : cosA x * -sinA y = -(cosA x * sinA y) := Int.mul_neg _ _
  have e2 : sinA x * -sinA y = -(sinA x * sinA y) := Int.mul_neg _ _
  rw [e1, e2]
  omega
theorem add_turns {e x y : Int} (n : Int) (h : AddP e x y) : AddP e x (y + 3600 * n) := by
  unfold AddP sinA at *
  rw [show y + 3600 * n - 900 = y - 900 + 3600 * n by omega, show x + (y + 3600 * n) = x + y + 3600 * n by omega, show x + y + 3600 * n - 900 = x + y - 900 + 3600 * n by omega, cosA_turns, cosA_turns, cosA_turns, cosA_turns]
  exact h
theorem add_any (x y : Int) : AddP 70000 x y := by
  obtain ⟨m, j, k, e, j0, j1, k1⟩ : ∃ (m j : Int) (k : Nat), y = k + 900 * j + 3600 * m ∧ 0 ≤ j ∧ j ≤ 3 ∧ k < 900 := ⟨y / 3600, y % 3600 / 900, (y % 900).toNat, by omega, by omega, by omega, by omega⟩
  rw [e]
  refine add_turns m ?_
  have r0 := add_mono (add_q x k) (Int.le_trans (dB_mono (show k ≤ 900 by omega)) dB_900)
  have r1 := add_90 r0
  have r2 := add_90 r1
  have r3 := add_90 r2
  obtain rfl | rfl | rfl | rfl : j = 0 ∨ j = 1 ∨ j = 2 ∨ j = 3 := by omega
  · rw [show (k : Int) + 900 * 0 = k by omega]; exact r0
  · rw [show (k : Int) + 900 * 1 = k + 900 by omega]; exact r1
  · rw [show (k : Int) + 900 * 2 = k + 900 + 900 by omega]; exact r2
  · rw [show (k : Int) + 900 * 3 = k + 900 + 900 + 900 by omega]; exact r3
end Go.Proofs.Ytfblpokjbopagaa
/-
  Layer 2: products of bounds, the bounds of spans of angles: the greatest and the least of their angles.
-/
namespace Go.Proofs.Ytfblpokjbopagaa

def prodZ (a b : Int × Int) : Int × Int :=
  (min (min (min (a.1 * b.1) (a.1 * b.2)) (a.2 * b.1)) (a.2 * b.2), max (max (max (a.1 * b.1) (a.1 * b.2)) (a.2 * b.1)) (a.2 * b.2))
theorem bil {A B C D u v : Int} (h0 : A ≤ u) (h1 : u ≤ B) (k0 : C ≤ v) (k1 : v ≤ D) : min (min (min (A * C) (A * D)) (B * C)) (B * D) ≤ u * v ∧ u * v ≤ max (max (max (A * C) (A * D)) (B * C)) (B * D) := by
  have a1 : (A * v ≤ u * v ∧ u * v ≤ B * v) ∨ (B * v ≤ u * v ∧ u * v ≤ A * v) := by
    rcases Int.le_total 0 v with h | h
    · exact .inl ⟨Int.mul_le_mul_of_nonneg_right h0 h, Int.mul_le_mul_of_nonneg_right h1 h⟩
    · exact .inr ⟨Int.mul_le_mul_of_nonpos_right h1 h, Int.mul_le_mul_of_nonpos_right h0 h⟩
  have a2 : (A * C ≤ A * v ∧ A * v ≤ A * D) ∨ (A * D ≤ A * v ∧ A * v ≤ A * C) := by
    rcases Int.le_total 0 A with h | h
    · exact .inl ⟨Int.mul_le_mul_of_nonneg_left k0 h, Int.mul_le_mul_of_nonneg_left k1 h⟩
    · exact .inr ⟨Int.mul_le_mul_of_nonpos_left h k1, Int.mul_le_mul_of_nonpos_left h k0⟩
  have a3 : (B * C ≤ B * v ∧ B * v ≤ B * D) ∨ (B * D ≤ B * v ∧ B * v ≤ B * C) := by
    rcases Int.le_total 0 B with h | h
    · exact .inl ⟨Int.mul_le_mul_of_nonneg_left k0 h, Int.mul_le_mul_of_nonneg_left k1 h⟩
    · exact .inr ⟨Int.mul_le_mul_of_nonpos_left h k1, Int.mul_le_mul_of_nonpos_left h k0⟩
  generalize A * C = p at *
  generalize A * D = q at *
  generalize B * C = r at *
  generalize B * D = s at *
  generalize A * v = y at *
  generalize B * v = z at *
  generalize u * v = t at *
  omega
theorem clamp {a b u : Int} (hab : a ≤ b) (h0 : a * 17592186044416 - 2 ≤ u) (h1 : u ≤ b * 17592186044416 + 2) : ∃ c, a * 17592186044416 ≤ c ∧ c ≤ b * 17592186044416 ∧ -2 ≤ u - c ∧ u - c ≤ 2 := by
  by_cases h2 : u < a * 17592186044416
  · exact ⟨a * 17592186044416, by omega, by omega, by omega, by omega⟩
  · by_cases h3 : b * 17592186044416 < u
    · exact ⟨b * 17592186044416, by omega, by omega, by omega, by omega⟩
    · exact ⟨u, by omega, by omega, by omega, by omega⟩
theorem scale (a b : Int) : a * 17592186044416 * (b * 17592186044416) = a * b * 309485009821345068724781056 := by grind
theorem prod_near {a b : Int × Int} {u v : Int} (ha : -65536 ≤ a.1 ∧ a.1 ≤ a.2 ∧ a.2 ≤ 65536) (hb : -65536 ≤ b.1 ∧ b.1 ≤ b.2 ∧ b.2 ≤ 65536) (h0 : a.1 * 17592186044416 - 2 ≤ u) (h1 : u ≤ a.2 * 17592186044416 + 2) (k0 : b.1 * 17592186044416 - 2 ≤ v) (k1 : v ≤ b.2 * 17592186044416 + 2) (hu : -1152921504606846976 ≤ u ∧ u ≤ 1152921504606846976) :
    (prodZ a b).1 * 309485009821345068724781056 - 4611686018427387904 ≤ u * v ∧ u * v ≤ (prodZ a b).2 * 309485009821345068724781056 + 4611686018427387904 := by
  obtain ⟨c, c0, c1, c2, c3⟩ := clamp ha.2.1 h0 h1
  obtain ⟨d, d0, d1, d2, d3⟩ := clamp hb.2.1 k0 k1
  have hd : -1152921504606846976 ≤ d ∧ d ≤ 1152921504606846976 := by omega
  have m := bil c0 c1 d0 d1
  simp only [scale] at m
  have e1 := mul_abs hu.1 hu.2 d2 d3
  have e2 := mul_abs c2 c3 hd.1 hd.2
  have e : u * v = c * d + u * (v - d) + (u - c) * d := by grind
  rw [e]
  unfold prodZ
  simp only
  generalize u * (v - d) = y at *
  generalize (u - c) * d = z at *
  generalize c * d = t at *
  generalize a.1 * b.1 = p at *
  generalize a.1 * b.2 = q at *
  generalize a.2 * b.1 = r at *
  generalize a.2 * b.2 = s at *
  omega
theorem prod_ord (a b : Int × Int) : (prodZ a b).1 ≤ (prodZ a b).2 := by unfold prodZ; simp only; omega
/-- the theorem of addition, of the bounds -/
theorem add_bounds (x y : Int) :
    max ((pointZ (x + y)).1 * 65536) ((prodZ (pointZ x) (pointZ y)).1 - (prodZ (pointZ (x - 900)) (pointZ (y - 900))).2) ≤
    min ((pointZ (x + y)).2 * 65536) ((prodZ (pointZ x) (pointZ y)).2 - (prodZ (pointZ (x - 900)) (pointZ (y - 900))).1) := by
  have c := cosA_near x
  have d := cosA_near y
  have s := cosA_near (x - 900)
  have t := cosA_near (y - 900)
  have w := cosA_near (x + y)
  have rc := point_rng x
  have rd := point_rng y
  have rs := point_rng (x - 900)
  have rt := point_rng (y - 900)
  have rw' := point_rng (x + y)
  have p := prod_near ⟨rc.1, rc.2.1, rc.2.2.1⟩ ⟨rd.1, rd.2.1, rd.2.2.1⟩ c.2.2.1 c.2.2.2 d.2.2.1 d.2.2.2 ⟨c.1, c.2.1⟩
  have q := prod_near ⟨rs.1, rs.2.1, rs.2.2.1⟩ ⟨rt.1, rt.2.1, rt.2.2.1⟩ s.2.2.1 s.2.2.2 t.2.2.1 t.2.2.2 ⟨s.1, s.2.1⟩
  have o1 := prod_ord (pointZ x) (pointZ y)
  have o2 := prod_ord (pointZ (x - 900)) (pointZ (y - 900))
  have a := (add_any x y).1
  unfold sinA at a
  generalize prodZ (pointZ x) (pointZ y) = cd at *
  generalize prodZ (pointZ (x - 900)) (pointZ (y - 900)) = st at *
  generalize cosA x * cosA y = cc at *
  generalize cosA (x - 900) * cosA (y - 900) = ss at *
  obtain ⟨_, _, w1, w2⟩ := w
  generalize cosA (x + y) = z at *
  clear c d s t rc rd rs rt
  generalize pointZ (x + y) = S at *
  omega

/-! Spans of angles. -/
theorem has_turns (a : Int × Int) (k : Int) : hasZ (a.1 + 1800, a.2 + 1800) k = hasZ a (k - 1800) := by
  unfold hasZ
  rw [show a.1 + 1800 - k = a.1 - (k - 1800) by omega, show a.2 + 1800 - k = a.2 - (k - 1800) by omega]
theorem has_1800 (a : Int × Int) : hasZ a 1800 = hasZ (a.1 + 1800, a.2 + 1800) 0 := by
  rw [has_turns]
  unfold hasZ upZ downZ
  rw [Bool.eq_iff_iff, decide_eq_true_iff, decide_eq_true_iff]
  omega
def topZ (a : Int × Int) : Int := if hasZ a 0 then 65536 else max (pointZ a.1).2 (pointZ a.2).2
theorem bounds_2 (a : Int × Int) : (boundsZ a).2 = topZ a := rfl
theorem bounds_1 (a : Int × Int) : (boundsZ a).1 = -topZ (a.1 + 1800, a.2 + 1800) := by
  unfold boundsZ topZ
  rw [has_1800]
  simp only [point_opp]
  split
  · rfl
  · omega
theorem fold_at {a m : Int} (h0 : 3600 * m ≤ a) (h1 : a < 3600 * (m + 1)) : foldZ a = if a - 3600 * m ≤ 1800 then a - 3600 * m else 3600 - (a - 3600 * m) := by
  unfold foldZ
  simp only
  split <;> split <;> omega
theorem top_ge {a : Int × Int} {k : Int} (h0 : a.1 ≤ k) (h1 : k ≤ a.2) : (pointZ k).2 ≤ topZ a := by
  unfold topZ
  cases h : hasZ a 0 with
  | true => simp; exact (point_rng k).2.2.1
  | false =>
    simp only [Bool.false_eq_true, if_false]
    unfold hasZ upZ downZ at h
    simp only [decide_eq_false_iff_not] at h
    obtain ⟨m, hm⟩ : ∃ m, a.2 / 3600 = m := ⟨_, rfl⟩
    have e0 := fold_at (a := a.1) (m := m) (by omega) (by omega)
    have e1 := fold_at (a := k) (m := m) (by omega) (by omega)
    have e2 := fold_at (a := a.2) (m := m) (by omega) (by omega)
    rw [point_half, point_half, point_half]
    by_cases hk : k - 3600 * m ≤ 1800
    · rw [if_pos (by omega)] at e0 e1
      rw [e0, e1]
      have := (half_anti (j := a.1 - 3600 * m) (k := k - 3600 * m) (by omega) (by omega) (by omega)).2
      omega
    · rw [if_neg (by omega)] at e1 e2
      rw [e1, e2]
      have := (half_anti (j := 3600 - (a.2 - 3600 * m)) (k := 3600 - (k - 3600 * m)) (by omega) (by omega) (by omega)).2
      omega
theorem top_has {a : Int × Int} (h : a.1 ≤ a.2) : ∃ k, a.1 ≤ k ∧ k ≤ a.2 ∧ k ≤ a.1 + 3600 ∧ (pointZ k).2 = topZ a := by
  unfold topZ
  cases hb : hasZ a 0 with
  | true =>
    simp only [if_true]
    unfold hasZ upZ downZ at hb
    have hb := of_decide_eq_true hb
    refine ⟨3600 * (-(-(a.1 - 0) / 3600)), by omega, by omega, by omega, ?_⟩
    have e := fold_at (a := 3600 * (-(-(a.1 - 0) / 3600))) (m := -(-(a.1 - 0) / 3600)) (by omega) (by omega)
    rw [if_pos (by omega), Int.sub_self] at e
    rw [point_half, e]
    rfl
  | false =>
    simp only [Bool.false_eq_true, if_false]
    unfold hasZ upZ downZ at hb
    simp only [decide_eq_false_iff_not] at hb
    rcases Int.le_total (pointZ a.1).2 (pointZ a.2).2 with h2 | h2
    · exact ⟨a.2, by omega, by omega, by omega, by omega⟩
    · exact ⟨a.1, by omega, by omega, by omega, by omega⟩
theorem bounds_all {a : Int × Int} {k : Int} (h0 : a.1 ≤ k) (h1 : k ≤ a.2) : (boundsZ a).1 ≤ (pointZ k).1 ∧ (pointZ k).2 ≤ (boundsZ a).2 := by
  have k1 := top_ge h0 h1
  have k2 := top_ge (a := (a.1 + 1800, a.2 + 1800)) (k := k + 1800) (by simp only; omega) (by simp only; omega)
  rw [point_opp] at k2
  rw [bounds_1, bounds_2]
  omega
theorem bounds_has1 {a : Int × Int} (h : a.1 ≤ a.2) : ∃ k, a.1 ≤ k ∧ k ≤ a.2 ∧ k ≤ a.1 + 3600 ∧ (pointZ k).1 = (boundsZ a).1 := by
  obtain ⟨k, h0, h1, h2, h3⟩ := top_has (a := (a.1 + 1800, a.2 + 1800)) (by simp only; omega)
  have e := point_opp (k - 1800)
  rw [show k - 1800 + 1800 = k by omega] at e
  rw [e] at h3
  refine ⟨k - 1800, by omega, by omega, by omega, ?_⟩
  rw [bounds_1, ← h3]
  simp
theorem bounds_has2 {a : Int × Int} (h : a.1 ≤ a.2) : ∃ k, a.1 ≤ k ∧ k ≤ a.2 ∧ k ≤ a.1 + 3600 ∧ (pointZ k).2 = (boundsZ a).2 := top_has h
theorem bounds_rng {a : Int × Int} (h : a.1 ≤ a.2) : -65536 ≤ (boundsZ a).1 ∧ (boundsZ a).1 ≤ (boundsZ a).2 ∧ (boundsZ a).2 ≤ 65536 := by
  obtain ⟨j, h0, h1, _, h3⟩ := bounds_has1 h
  obtain ⟨k, k0, k1, _, k3⟩ := bounds_has2 h
  have := point_rng j
  have := point_rng k
  have := bounds_all h0 h1
  omega
theorem bounds_point (k : Int) : boundsZ (k, k) = pointZ k := by
  obtain ⟨i, h0, h1, _, h3⟩ := bounds_has1 (a := (k, k)) (Int.le_refl _)
  obtain ⟨j, k0, k1, _, k3⟩ := bounds_has2 (a := (k, k)) (Int.le_refl _)
  simp only at h0 h1 k0 k1
  obtain rfl : i = k := by omega
  obtain rfl : j = i := by omega
  exact Prod.ext h3.symm k3.symm
/-- the bounds of a span have those of each span within it -/
theorem bounds_mono {a b : Int × Int} (h : a.1 ≤ a.2) (h1 : b.1 ≤ a.1) (h2 : a.2 ≤ b.2) : (boundsZ b).1 ≤ (boundsZ a).1 ∧ (boundsZ a).2 ≤ (boundsZ b).2 := by
  obtain ⟨i, i0, i1, _, i3⟩ := bounds_has1 h
  obtain ⟨j, j0, j1, _, j3⟩ := bounds_has2 h
  have := bounds_all (a := b) (k := i) (by omega) (by omega)
  have := bounds_all (a := b) (k := j) (by omega) (by omega)
  omega
theorem point_step (k : Int) : (pointZ k).2 ≤ (pointZ (k + 1)).1 + 119 ∧ (pointZ (k + 1)).2 ≤ (pointZ k).1 + 119 := by
  have e0 := fold_at (a := k) (m := k / 3600) (by omega) (by omega)
  have hf := foldZ_rng k
  have hf' := foldZ_rng (k + 1)
  have e1 : foldZ (k + 1) = foldZ k + 1 ∨ foldZ k = foldZ (k + 1) + 1 := by
    by_cases h : k + 1 < 3600 * (k / 3600 + 1)
    · have e1 := fold_at (a := k + 1) (m := k / 3600) (by omega) h
      rw [e0, e1]
      split <;> split <;> omega
    · have e1 := fold_at (a := k + 1) (m := k / 3600 + 1) (by omega) (by omega)
      rw [e0, e1]
      split <;> split <;> omega
  rw [point_half, point_half]
  rcases e1 with e1 | e1
  · rw [e1]
    have := half_step (k := foldZ k) (by omega) (by omega)
    have := half_rng (k := foldZ k) (by omega) (by omega)
    omega
  · rw [e1]
    have := half_step (k := foldZ (k + 1)) (by omega) (by omega)
    have := half_rng (k := foldZ (k + 1)) (by omega) (by omega)
    omega
/-- a span of one step at most -/
theorem bounds_near {a : Int × Int} (h : a.1 ≤ a.2) (h1 : a.2 ≤ a.1 + 1) : (boundsZ a).2 ≤ (boundsZ a).1 + 119 := by
  obtain ⟨i, i0, i1, _, i3⟩ := bounds_has1 h
  obtain ⟨j, j0, j1, _, j3⟩ := bounds_has2 h
  rw [← i3, ← j3]
  obtain rfl | rfl | rfl : i = j ∨ i = j + 1 ∨ j = i + 1 := by omega
  · have := point_rng i
    omega
  · have := point_step j
    omega
  · have := point_step i
    omega
end Go.Proofs.Ytfblpokjbopagaa
