/-
  Layer 2, the program's series of a cosine as a function on integers, compared by the kernel's reckoning with the reference's at each angle of a quarter turn.
-/
import Derived.Test.YtfblpokjbopagaaMB
import Derived.Laws.Bits64b
import Derived.Shelf.Bits.Mul64
import Derived.Test.YtfblpokjbopagaaProg
set_option linter.unusedSimpArgs false
set_option linter.unusedVariables false
namespace Go.Proofs.Ytfblpokjbopagaa
open Go.RowKit

/-- products of numbers with 60 binary digits behind the point -/
def mulZ (a b : Int) : Int := a * b / 1152921504606846976
/-- the next term -/
def stepZ (sq t p : Int) : Int := mulZ t sq / ((p + 1) * (p + 2))
/-- what the loop does from a term on: t is the term, p its power, s0 and s1 the sums, b the side; none if something did not fit -/
def serZ (sq : Int) : Nat → Int → Int → Int → Int → Bool → Option (Int × Int)
  | 0, _, _, _, _, _ => none
  | f + 1, t, p, s0, s1, b =>
    if 0 < t then
      if t ≤ 2305843009213693952 ∧ s0 + t < 18446744073709551616 ∧ s1 + t < 18446744073709551616 ∧ p ≤ 190 then
        (if b then serZ sq f (stepZ sq t p) (p + 2) s0 (s1 + t) false else serZ sq f (stepZ sq t p) (p + 2) (s0 + t) s1 true)
      else none
    else some (s0, s1)
theorem ser_le {sq : Int} {f : Nat} {t p s0 s1 : Int} {b : Bool} {r : Int × Int} (h : serZ sq f t p s0 s1 b = some r) : t ≤ 2305843009213693952 := by
  cases f with
  | zero => cases h
  | succ f =>
    unfold serZ at h
    split at h
    · split at h
      · omega
      · cases h
    · omega
theorem ser_go {sq : Int} {f : Nat} {t p s0 s1 : Int} {b : Bool} {r : Int × Int} (h : serZ sq f t p s0 s1 b = some r) (ht : 0 < t) :
    ∃ f', f = f' + 1 ∧ t ≤ 2305843009213693952 ∧ s0 + t < 18446744073709551616 ∧ s1 + t < 18446744073709551616 ∧ p ≤ 190 ∧
      (b = true → serZ sq f' (stepZ sq t p) (p + 2) s0 (s1 + t) false = some r) ∧ (b = false → serZ sq f' (stepZ sq t p) (p + 2) (s0 + t) s1 true = some r) := by
  cases f with
  | zero => cases h
  | succ f =>
    unfold serZ at h
    rw [if_pos ht] at h
    split at h
    · rename_i h2
      refine ⟨f, rfl, h2.1, h2.2.1, h2.2.2.1, h2.2.2.2, fun e => ?_, fun e => ?_⟩
      · subst e; exact h
      · subst e; exact h
    · cases h
theorem ser_end {sq : Int} {f : Nat} {t p s0 s1 : Int} {b : Bool} {r : Int × Int} (h : serZ sq f t p s0 s1 b = some r) (ht : ¬ 0 < t) : r = (s0, s1) := by
  cases f with
  | zero => cases h
  | succ f =>
    unfold serZ at h
    rw [if_neg ht] at h
    injection h with h
    exact h.symm
def sqZ (k : Int) : Int := mulZ (k * 2012227627243645) (k * 2012227627243645)
def oneS (k : Nat) : Bool :=
  if k == 0 || k == 600 || k == 900 then true else
  match serZ (sqZ k) 40 1152921504606846976 0 0 0 false with
  | none => false
  | some (a, b) => decide (0 ≤ a - b ∧ quartZ k = ((a - b) / 17592186044416, (a - b) / 17592186044416 + 1))
theorem ser_tab : ((List.range 901).all oneS) = true := by decide +kernel
theorem ser_one {k : Int} (h0 : 0 < k) (h1 : k < 900) (h2 : k ≠ 600) : ∃ a b, serZ (sqZ k) 40 1152921504606846976 0 0 0 false = some (a, b) ∧ 0 ≤ a - b ∧ quartZ k = ((a - b) / 17592186044416, (a - b) / 17592186044416 + 1) := by
  have h : oneS k.toNat = true := List.all_eq_true.1 ser_tab _ (List.mem_range.2 (by omega))
  unfold oneS at h
  rw [if_neg (by simp; omega), Int.toNat_of_nonneg (by omega)] at h
  split at h
  · exact absurd h (by simp)
  · next a b e => exact ⟨a, b, e, (of_decide_eq_true h).1, (of_decide_eq_true h).2⟩
theorem psq_rng {k : Int} (h0 : 0 ≤ k) (h1 : k ≤ 900) : 0 ≤ sqZ k ∧ sqZ k ≤ 4611686018427387904 ∧ 0 ≤ k * 2012227627243645 ∧ k * 2012227627243645 ≤ 2305843009213693952 := by
  have hx : 0 ≤ k * 2012227627243645 ∧ k * 2012227627243645 ≤ 1811004864519280500 := by omega
  have := mul_rng hx.1 hx.2 hx.1 hx.2
  unfold sqZ mulZ
  generalize k * 2012227627243645 * (k * 2012227627243645) = m at *
  omega
/-- the words of a product -/
theorem prod_words (a b : Int) (ha : 0 ≤ a) (hb : 0 ≤ b) (h : a * b < 21267647932558653966460912964485513216) :
    ∃ x y : Nat, (x : Int) = a ∧ (y : Int) = b ∧ x * y / 18446744073709551616 < 1152921504606846976 ∧ ((x * y : Nat) : Int) = a * b := by
  obtain ⟨x, rfl⟩ := Int.eq_ofNat_of_zero_le ha
  obtain ⟨y, rfl⟩ := Int.eq_ofNat_of_zero_le hb
  refine ⟨x, y, rfl, rfl, ?_, Int.natCast_mul x y⟩
  rw [← Int.natCast_mul] at h
  generalize x * y = m at *
  omega
theorem or_words (m : Nat) (h : m < 21267647932558653966460912964485513216) :
    bits .or .u64 ((m / 18446744073709551616 * 16 : Nat) : Int) ((m % 18446744073709551616 / 1152921504606846976 : Nat) : Int) = ((m / 1152921504606846976 : Nat) : Int) := by
  rw [bits_or_u64_nat _ _ (by omega) (by omega)]
  have e : m / 18446744073709551616 * 16 ||| m % 18446744073709551616 / 1152921504606846976 = m / 18446744073709551616 * 16 + m % 18446744073709551616 / 1152921504606846976 := by
    have := Nat.shiftLeft_add_eq_or_of_lt (b := m % 18446744073709551616 / 1152921504606846976) (i := 4) (by omega) (m / 18446744073709551616)
    rw [Nat.shiftLeft_eq] at this
    exact this.symm
  rw [e]
  omega
end Go.Proofs.Ytfblpokjbopagaa
/-
  Layer 2: the library's product of two words of 64 bits, laid at this seat's dump.
-/
namespace Go.Proofs
open Go.Shelf
def Try.lays264_ren : Go.Shelf.Ren := ⟨fun | 264 => 75 | n => n, fun | 53 => 108 | 46 => 104 | n => n, fun | n => n⟩
theorem Try.lays264 : Go.Proofs.Lays.n264 Try.prog Try.lays264_ren := {
  mixed := by kernel_rfl
  f264 := Try.func75.trans (congrArg some (by kernel_rfl))
  t46 := Try.underlying104
  a46 := Try.isAgg104
  z46 := Try.sizeOf104
  v46 := Try.zeroValue104
  t53 := Try.underlying108
  a53 := Try.isAgg108
  z53 := Try.sizeOf108
  v53 := Try.zeroValue108 }
open Go.RowKit Go.Lib in
theorem Try.bits_Mul64 (x y : Nat) (hx : x < 18446744073709551616) (hy : y < 18446744073709551616) (w : World) :
    Calls Try.prog 75 #[.int .u64 x, .int .u64 y] w fun e w' => e = .returned (.tuple #[.int .u64 ((x * y / 18446744073709551616 : Nat) : Int), .int .u64 ((x * y % 18446744073709551616 : Nat) : Int)]) ∧ w' = w := Any.bits_Mul64 Try.lays264 x y hx hy w
end Go.Proofs
