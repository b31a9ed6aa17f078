/-
  Layer 3: roots, storms, directions of vectors, on integers.
-/
import Derived.Test.YtdhcdgfpkjdihaaDoorVA3b
set_option linter.unusedSimpArgs false
set_option linter.unusedVariables false
namespace Go.Proofs.YtdhcdgfpkjdihaaDoor.Sg
open Go.RowKit
/-! Roots. -/
def isq : Nat → Nat
 | 0 => 0
 | n + 1 => if (isq n + 1) * (isq n + 1) ≤ n + 1 then isq n + 1 else isq n
theorem isq_spec (n : Nat) : isq n * isq n ≤ n ∧ n < (isq n + 1) * (isq n + 1) := by
 induction n with
 | zero => simp [isq]
 | succ n ih =>
  unfold isq
  split
  · rename_i h
    refine ⟨h, ?_⟩
    have := ih.2
    have e : (isq n + 1 + 1) * (isq n + 1 + 1) = (isq n + 1) * (isq n + 1) + 2 * (isq n + 1) + 1 := by grind
    omega
  · exact ⟨by omega, by omega⟩
def rtZ (n : Int) : Int := (isq n.toNat : Nat)
theorem rt_spec {n : Int} (h : 0 ≤ n) : 0 ≤ rtZ n ∧ rtZ n * rtZ n ≤ n ∧ n < (rtZ n + 1) * (rtZ n + 1) := by
 have k := isq_spec n.toNat
 unfold rtZ
 refine ⟨by omega, ?_, ?_⟩
 · have h1 : ((isq n.toNat * isq n.toNat : Nat) : Int) ≤ (n.toNat : Nat) := by omega
   rw [Int.natCast_mul] at h1
   omega
 · have h1 : ((n.toNat : Nat) : Int) < (((isq n.toNat + 1) * (isq n.toNat + 1) : Nat) : Int) := by omega
   rw [Int.natCast_mul] at h1
   simp only [Int.natCast_add, Int.natCast_one] at h1
   omega
theorem sq_lt {a b : Int} (h0 : 0 ≤ b) (h : a * a < b * b) (ha : 0 ≤ a) : a < b := by
 rcases Int.lt_or_le a b with g | g
 · exact g
 · have := Int.mul_le_mul g g h0 ha
   omega
theorem rt_of {n r : Int} (h0 : 0 ≤ r) (h1 : r * r ≤ n) (h2 : n < (r + 1) * (r + 1)) : rtZ n = r := by
 have hn : 0 ≤ n := Int.le_trans (Int.mul_nonneg h0 h0) h1
 have k := rt_spec hn
 have a := sq_lt (a := r) (b := rtZ n + 1) (by omega) (by omega) h0
 have b := sq_lt (a := rtZ n) (b := r + 1) (by omega) (by omega) k.1
 omega
theorem rt_mono {a b : Int} (h0 : 0 ≤ a) (h : a ≤ b) : rtZ a ≤ rtZ b := by
 have k := rt_spec h0
 have q := rt_spec (show 0 ≤ b by omega)
 have := sq_lt (a := rtZ a) (b := rtZ b + 1) (by omega) (by omega) k.1
 omega
def ruZ (n : Int) : Int := if rtZ n * rtZ n < n then rtZ n + 1 else rtZ n
theorem ru_spec {n : Int} (h : 0 ≤ n) : 0 ≤ ruZ n ∧ n ≤ ruZ n * ruZ n ∧ rtZ n ≤ ruZ n ∧ ruZ n ≤ rtZ n + 1 ∧ (rtZ n < ruZ n → rtZ n * rtZ n < n) := by
 have k := rt_spec h
 unfold ruZ
 split
 · exact ⟨by omega, by omega, by omega, by omega, fun _ => by assumption⟩
 · exact ⟨by omega, by omega, by omega, by omega, fun h => by omega⟩
theorem ru_mono {a b : Int} (h0 : 0 ≤ a) (h : a ≤ b) : ruZ a ≤ ruZ b := by
 have k := ru_spec h0
 have q := ru_spec (show 0 ≤ b by omega)
 have k2 := rt_spec h0
 by_cases g : rtZ a < ruZ a
 · have := k.2.2.2.2 g
   have := sq_lt (a := rtZ a) (b := ruZ b) q.1 (by omega) k2.1
   omega
 · have := rt_mono h0 h
   omega
theorem rt_le {n M : Int} (h0 : 0 ≤ n) (hM : 0 ≤ M) (h : n ≤ M * M) : rtZ n ≤ M ∧ ruZ n ≤ M := by
 have k := rt_spec h0
 have q := ru_spec h0
 have h1 := sq_lt (a := rtZ n) (b := M + 1) (by omega) (by grind) k.1
 refine ⟨by omega, ?_⟩
 by_cases g : rtZ n < ruZ n
 · have := q.2.2.2.2 g
   have := sq_lt (a := rtZ n) (b := M) hM (by omega) k.1
   omega
 · omega
/-! Distances. -/
def nearZ (s : Int × Int) : Int := max (max 0 s.1) (-s.2)
def farZ (s : Int × Int) : Int := max (-s.1) s.2
def negZ (s : Int × Int) : Int × Int := (-s.2, -s.1)
def distZ (u v : Int × Int) : Int × Int := (rtZ (nearZ u * nearZ u + nearZ v * nearZ v), ruZ (farZ u * farZ u + farZ v * farZ v))
theorem near_in {u u' : Int × Int} (h : Lie u' u) : 0 ≤ nearZ u ∧ nearZ u ≤ nearZ u' ∧ nearZ u' ≤ farZ u' ∧ farZ u' ≤ farZ u := by
 unfold Lie at h
 unfold nearZ farZ
 omega
theorem dist_in {u u' v v' : Int × Int} (hu : Lie u' u) (hv : Lie v' v) : 0 ≤ (distZ u v).1 ∧ Lie (distZ u' v') (distZ u v) := by
 have a := near_in hu
 have b := near_in hv
 have a1 := Int.mul_nonneg a.1 a.1
 have b1 := Int.mul_nonneg b.1 b.1
 have a2 := Int.mul_le_mul a.2.1 a.2.1 a.1 (by omega)
 have b2 := Int.mul_le_mul b.2.1 b.2.1 b.1 (by omega)
 have a3 := Int.mul_le_mul a.2.2.1 a.2.2.1 (by omega) (by omega)
 have b3 := Int.mul_le_mul b.2.2.1 b.2.2.1 (by omega) (by omega)
 have a4 := Int.mul_le_mul a.2.2.2 a.2.2.2 (by omega) (by omega)
 have b4 := Int.mul_le_mul b.2.2.2 b.2.2.2 (by omega) (by omega)
 unfold Lie distZ
 simp only
 refine ⟨(rt_spec (by omega)).1, ?_, rt_mono (by omega) (by omega), ru_mono (by omega) (by omega)⟩
 exact Int.le_trans (rt_mono (by omega) (by omega)) (ru_spec (by omega)).2.2.1
/-! Speeds. -/
def topZ (R M q : Int) : Int := if q ≤ R then M * q else M * R
def botZ (R q : Int) : Int := if q ≤ R then R else q
def vLo (R M q : Int) : Int := topZ R M q / botZ R q
def vHi (R M q : Int) : Int := upQ (topZ R M q) (botZ R q)
def speedZ (s : So) (r : Int × Int) : Int × Int :=
 (min (vLo s.r s.m.1 r.1) (vLo s.r s.m.1 r.2), if r.1 ≤ s.r ∧ s.r ≤ r.2 then s.m.2 else max (vHi s.r s.m.2 r.1) (vHi s.r s.m.2 r.2))
theorem bot_pos {R q : Int} (hR : 1 ≤ R) : 0 < botZ R q := by unfold botZ; split <;> omega
/-- speeds grow up to the radius, and become less behind it -/
theorem v_up {R M M' q q' : Int} (hR : 1 ≤ R) (hM : 0 ≤ M) (hM' : M ≤ M') (h0 : 0 ≤ q) (h1 : q ≤ q') (h2 : q' ≤ R) : vLo R M q ≤ vLo R M' q' ∧ vHi R M q ≤ vHi R M' q' := by
 unfold vLo vHi topZ botZ
 rw [if_pos (by omega), if_pos (by omega), if_pos (by omega), if_pos (by omega)]
 have k := Int.mul_le_mul hM' h1 h0 (by omega)
 exact ⟨dn_mono (by omega) k, up_mono1 (by omega) k⟩
theorem v_down {R M M' q q' : Int} (hR : 1 ≤ R) (hM : 0 ≤ M) (hM' : M ≤ M') (h1 : q' ≤ q) (h2 : R < q') : vLo R M q ≤ vLo R M' q' ∧ vHi R M q ≤ vHi R M' q' := by
 unfold vLo vHi topZ botZ
 rw [if_neg (by omega), if_neg (by omega), if_neg (by omega), if_neg (by omega)]
 have k := Int.mul_le_mul_of_nonneg_right hM' (show 0 ≤ R by omega)
 have k0 := Int.mul_nonneg hM (show 0 ≤ R by omega)
 exact ⟨quo_mono k0 k (by omega) h1, up_mono k0 k (by omega) h1⟩
theorem v_rng {R M q : Int} (hR : 1 ≤ R) (hM : 0 ≤ M) (h0 : 0 ≤ q) : 0 ≤ vLo R M q ∧ vLo R M q ≤ vHi R M q ∧ vHi R M q ≤ M := by
 have hb := bot_pos (q := q) hR
 have ht : 0 ≤ topZ R M q := by unfold topZ; split <;> exact Int.mul_nonneg hM (by omega)
 have hl : topZ R M q ≤ M * botZ R q := by
  unfold topZ botZ
  split
  · exact Int.mul_le_mul_of_nonneg_left (by omega) hM
  · exact Int.mul_le_mul_of_nonneg_left (by omega) hM
 refine ⟨Int.ediv_nonneg ht (by omega), dn_le_up hb, ?_⟩
 have h1 := up_rng (a := topZ R M q) hb
 rcases Int.lt_or_le M (vHi R M q) with g | g
 · unfold vHi at g
   have := Int.mul_le_mul_of_nonneg_right (show M + 1 ≤ upQ (topZ R M q) (botZ R q) by omega) (show 0 ≤ botZ R q by omega)
   rw [Int.add_mul] at this
   omega
 · exact g
theorem vlo_hi {R M M' q : Int} (hR : 1 ≤ R) (hM : 0 ≤ M) (hM' : M ≤ M') (h0 : 0 ≤ q) : vLo R M q ≤ vHi R M' q := by
 have hb := bot_pos (q := q) hR
 have k : topZ R M q ≤ topZ R M' q := by unfold topZ; split <;> exact Int.mul_le_mul_of_nonneg_right hM' (by omega)
 exact Int.le_trans (dn_mono hb k) (dn_le_up hb)
theorem speed_in {s t : So} {r r' : Int × Int} (hR : 1 ≤ s.r) (hr : t.r = s.r) (hm : 0 ≤ s.m.1) (hmm : Lie t.m s.m) (h0 : 0 ≤ r.1) (h : Lie r' r) : Lie (speedZ t r') (speedZ s r) := by
 unfold Lie at hmm h
 unfold Lie speedZ
 rw [hr]
 simp only
 have lo : ∀ q', r.1 ≤ q' → q' ≤ r.2 → min (vLo s.r s.m.1 r.1) (vLo s.r s.m.1 r.2) ≤ vLo s.r t.m.1 q' := fun q' h1 h2 => by
  by_cases hq : q' ≤ s.r
  · have := (v_up (R := s.r) (M := s.m.1) (M' := t.m.1) (q := r.1) (q' := q') hR hm (by omega) h0 h1 hq).1
    omega
  · have := (v_down (R := s.r) (M := s.m.1) (M' := t.m.1) (q := r.2) (q' := q') hR hm (by omega) h2 (by omega)).1
    omega
 have l1 := lo r'.1 (by omega) (by omega)
 have l2 := lo r'.2 (by omega) (by omega)
 have b1 := v_rng (R := s.r) (M := t.m.2) (q := r'.1) hR (by omega) (by omega)
 have b2 := v_rng (R := s.r) (M := t.m.2) (q := r'.2) hR (by omega) (by omega)
 have c1 := vlo_hi (R := s.r) (M := t.m.1) (M' := t.m.2) (q := r'.1) hR (by omega) (by omega) (by omega)
 refine ⟨?_, by omega, ?_⟩
 · split <;> omega
 · by_cases hin : r.1 ≤ s.r ∧ s.r ≤ r.2
   · rw [if_pos hin]
     split <;> omega
   · rw [if_neg hin, if_neg (by omega)]
     have hi : ∀ q', r.1 ≤ q' → q' ≤ r.2 → vHi s.r t.m.2 q' ≤ max (vHi s.r s.m.2 r.1) (vHi s.r s.m.2 r.2) := fun q' h1 h2 => by
      by_cases hq : r.2 < s.r
      · have := (v_up (R := s.r) (M := t.m.2) (M' := s.m.2) (q := q') (q' := r.2) hR (by omega) (by omega) (by omega) h2 (by omega)).2
        omega
      · have := (v_down (R := s.r) (M := t.m.2) (M' := s.m.2) (q := q') (q' := r.1) hR (by omega) (by omega) h1 (by omega)).2
        omega
     have i1 := hi r'.1 (by omega) (by omega)
     have i2 := hi r'.2 (by omega) (by omega)
     omega
theorem speed_rng {s : So} {r : Int × Int} (hR : 1 ≤ s.r) (hm : 0 ≤ s.m.1) (hmm : s.m.1 ≤ s.m.2) (h0 : 0 ≤ r.1) (h : r.1 ≤ r.2) : 0 ≤ (speedZ s r).1 ∧ (speedZ s r).1 ≤ (speedZ s r).2 ∧ (speedZ s r).2 ≤ s.m.2 := by
 have k := (speed_in (s := s) (t := s) (r := r) (r' := r) hR rfl hm (Lie.self hmm) h0 (Lie.self h)).1
 have b1 := v_rng (R := s.r) (M := s.m.1) (q := r.1) hR (by omega) (by omega)
 have b2 := v_rng (R := s.r) (M := s.m.1) (q := r.2) hR (by omega) (by omega)
 have c1 := v_rng (R := s.r) (M := s.m.2) (q := r.1) hR (by omega) (by omega)
 have c2 := v_rng (R := s.r) (M := s.m.2) (q := r.2) hR (by omega) (by omega)
 refine ⟨?_, k, ?_⟩
 · unfold speedZ
   simp only
   omega
 · unfold speedZ
   simp only
   split <;> omega
def lowZ (s : So) (r : Int × Int) : Int × Int := if s.r < r.2 then (0, s.p.2) else s.p
theorem low_in {s t : So} {r r' : Int × Int} (hr : t.r = s.r) (hp : 0 ≤ s.p.1) (hpp : Lie t.p s.p) (h : Lie r' r) : Lie (lowZ t r') (lowZ s r) := by
 unfold Lie at *
 unfold lowZ
 rw [hr]
 split
 · rw [if_pos (by omega)]
   simp only
   omega
 · split
   · simp only
     omega
   · omega
/-! Directions. -/
def strB (p q : Int × Int) : Bool := decide (0 < p.2 ∧ 12 * nearZ q ≤ 5 * p.2)
def slaB (p q : Int × Int) : Bool := decide ((0 < p.2 ∧ 0 < q.2) ∧ 5 * max p.1 1 ≤ 12 * q.2 ∧ 5 * max q.1 1 ≤ 12 * p.2)
def has0 (p : Int × Int) : Bool := decide (p.1 ≤ 0 ∧ 0 ≤ p.2)
def dirB (p q : Int × Int) (d : Nat) : Bool :=
 if d = 0 then strB p q else if d = 1 then slaB p q else if d = 2 then strB q p else if d = 3 then slaB (negZ p) q
 else if d = 4 then strB (negZ p) q else if d = 5 then slaB (negZ p) (negZ q) else if d = 6 then strB (negZ q) p else slaB p (negZ q)
def bv (b : Bool) (n : Nat) : Nat := if b then n else 0
def setN (f : Nat → Bool) : Nat := bv (f 0) 1 + bv (f 1) 2 + bv (f 2) 4 + bv (f 3) 8 + bv (f 4) 16 + bv (f 5) 32 + bv (f 6) 64 + bv (f 7) 128
def dirN (p q : Int × Int) : Nat := if has0 p = true ∧ has0 q = true then 255 else setN (dirB p q)
theorem setN_lt (f : Nat → Bool) : setN f < 256 := by
 unfold setN bv
 repeat' split
 all_goals omega
theorem setN_bit (f : Nat → Bool) {d : Nat} (hd : d < 8) : Nat.testBit (setN f) d = f d := by
 have h : ∀ (b0 b1 b2 b3 b4 b5 b6 b7 : Bool), Nat.testBit (bv b0 1 + bv b1 2 + bv b2 4 + bv b3 8 + bv b4 16 + bv b5 32 + bv b6 64 + bv b7 128) 0 = b0 ∧ Nat.testBit (bv b0 1 + bv b1 2 + bv b2 4 + bv b3 8 + bv b4 16 + bv b5 32 + bv b6 64 + bv b7 128) 1 = b1 ∧
  Nat.testBit (bv b0 1 + bv b1 2 + bv b2 4 + bv b3 8 + bv b4 16 + bv b5 32 + bv b6 64 + bv b7 128) 2 = b2 ∧ Nat.testBit (bv b0 1 + bv b1 2 + bv b2 4 + bv b3 8 + bv b4 16 + bv b5 32 + bv b6 64 + bv b7 128) 3 = b3 ∧
  Nat.testBit (bv b0 1 + bv b1 2 + bv b2 4 + bv b3 8 + bv b4 16 + bv b5 32 + bv b6 64 + bv b7 128) 4 = b4 ∧ Nat.testBit (bv b0 1 + bv b1 2 + bv b2 4 + bv b3 8 + bv b4 16 + bv b5 32 + bv b6 64 + bv b7 128) 5 = b5 ∧
  Nat.testBit (bv b0 1 + bv b1 2 + bv b2 4 + bv b3 8 + bv b4 16 + bv b5 32 + bv b6 64 + bv b7 128) 6 = b6 ∧ Nat.testBit (bv b0 1 + bv b1 2 + bv b2 4 + bv b3 8 + bv b4 16 + bv b5 32 + bv b6 64 + bv b7 128) 7 = b7 := by decide +kernel
 have k := h (f 0) (f 1) (f 2) (f 3) (f 4) (f 5) (f 6) (f 7)
 unfold setN
 rcases dir_cases hd with rfl | rfl | rfl | rfl | rfl | rfl | rfl | rfl
 · exact k.1
 · exact k.2.1
 · exact k.2.2.1
 · exact k.2.2.2.1
 · exact k.2.2.2.2.1
 · exact k.2.2.2.2.2.1
 · exact k.2.2.2.2.2.2.1
 · exact k.2.2.2.2.2.2.2
theorem bit_eq {a b : Nat} (ha : a < 256) (hb : b < 256) (h : ∀ d, d < 8 → Nat.testBit a d = Nat.testBit b d) : a = b := by
 refine Nat.eq_of_testBit_eq fun i => ?_
 rcases Nat.lt_or_ge i 8 with hi | hi
 · exact h i hi
 · have e : 256 ≤ 2 ^ i := by
    have := Nat.pow_le_pow_right (n := 2) (by omega) hi
    omega
   rw [Nat.testBit_lt_two_pow (by omega), Nat.testBit_lt_two_pow (by omega)]
theorem sub_and {a b : Nat} (ha : a < 256) (h : ∀ d, d < 8 → Nat.testBit a d = true → Nat.testBit b d = true) : a &&& b = a := by
 have hl : a &&& b < 256 := Nat.lt_of_le_of_lt Nat.and_le_left ha
 refine bit_eq hl ha fun d hd => ?_
 rw [Nat.testBit_and]
 cases e : Nat.testBit a d with
 | false => rfl
 | true => rw [h d hd e]; rfl
theorem neg_in {p p' : Int × Int} (h : Lie p' p) : Lie (negZ p') (negZ p) := by
 unfold Lie at h
 unfold Lie negZ
 simp only
 omega
theorem str_in {p p' q q' : Int × Int} (hp : Lie p' p) (hq : Lie q' q) (h : strB p' q' = true) : strB p q = true := by
 have k := near_in hq
 unfold Lie at hp
 unfold strB at *
 simp only [decide_eq_true_iff] at *
 omega
theorem sla_in {p p' q q' : Int × Int} (hp : Lie p' p) (hq : Lie q' q) (h : slaB p' q' = true) : slaB p q = true := by
 unfold Lie at hp hq
 unfold slaB at *
 simp only [decide_eq_true_iff] at *
 omega
theorem dirB_in {p p' q q' : Int × Int} (hp : Lie p' p) (hq : Lie q' q) {d : Nat} (h : dirB p' q' d = true) : dirB p q d = true := by
 have np := neg_in hp
 have nq := neg_in hq
 unfold dirB at *
 repeat' split at h
 all_goals simp only [*, ↓reduceIte] at *
 all_goals first
  | exact str_in hp hq h
  | exact sla_in hp hq h
  | exact str_in hq hp h
  | exact sla_in np hq h
  | exact str_in np hq h
  | exact sla_in np nq h
  | exact str_in nq hp h
  | exact sla_in hp nq h
theorem has0_in {p p' : Int × Int} (hp : Lie p' p) (h : has0 p' = true) : has0 p = true := by
 unfold Lie at hp
 unfold has0 at *
 simp only [decide_eq_true_iff] at *
 omega
theorem dirN_lt (p q : Int × Int) : dirN p q < 256 := by
 unfold dirN
 split
 · omega
 · exact setN_lt _
theorem dirN_bit {p q : Int × Int} {d : Nat} (hd : d < 8) : Nat.testBit (dirN p q) d = (if has0 p = true ∧ has0 q = true then true else dirB p q d) := by
 unfold dirN
 split
 · rcases dir_cases hd with rfl | rfl | rfl | rfl | rfl | rfl | rfl | rfl <;> decide
 · exact setN_bit _ hd
theorem dir_in {p p' q q' : Int × Int} (hp : Lie p' p) (hq : Lie q' q) : dirN p' q' &&& dirN p q = dirN p' q' := by
 refine sub_and (dirN_lt _ _) fun d hd h => ?_
 rw [dirN_bit hd] at *
 split
 · rfl
 · rename_i hn
   rw [if_neg (fun k => hn ⟨has0_in hp k.1, has0_in hq k.2⟩)] at h
   exact dirB_in hp hq h
/-! Of a vector. -/
def bitsN (n : Nat) : Nat := n % 2 + n / 2 % 2 + n / 4 % 2 + n / 8 % 2 + n / 16 % 2 + n / 32 % 2 + n / 64 % 2 + n / 128 % 2
def okN (n : Nat) : Bool := decide (bitsN n = 1 ∨ bitsN n = 2 ∧ bitsN (n &&& (n * 2 % 256 + n / 128)) = 1)
theorem vec_ok {u v : Int} (h : ¬ (u = 0 ∧ v = 0)) : okN (setN (dirB (u, u) (v, v))) = true := by
 have c0 : dirB (u, u) (v, v) 0 = true ↔ (0 < u ∧ 12 * v ≤ 5 * u ∧ -(5 * u) ≤ 12 * v) := by simp [dirB, strB, nearZ]; omega
 have c1 : dirB (u, u) (v, v) 1 = true ↔ (0 < u ∧ 0 < v ∧ 5 * u ≤ 12 * v ∧ 5 * v ≤ 12 * u) := by simp [dirB, slaB]; omega
 have c2 : dirB (u, u) (v, v) 2 = true ↔ (0 < v ∧ 12 * u ≤ 5 * v ∧ -(5 * v) ≤ 12 * u) := by simp [dirB, strB, nearZ]; omega
 have c3 : dirB (u, u) (v, v) 3 = true ↔ (u < 0 ∧ 0 < v ∧ -(5 * u) ≤ 12 * v ∧ 5 * v ≤ -(12 * u)) := by simp [dirB, slaB, negZ]; omega
 have c4 : dirB (u, u) (v, v) 4 = true ↔ (u < 0 ∧ 12 * v ≤ -(5 * u) ∧ 5 * u ≤ 12 * v) := by simp [dirB, strB, nearZ, negZ]; omega
 have c5 : dirB (u, u) (v, v) 5 = true ↔ (u < 0 ∧ v < 0 ∧ 12 * v ≤ 5 * u ∧ 12 * u ≤ 5 * v) := by simp [dirB, slaB, negZ]; omega
 have c6 : dirB (u, u) (v, v) 6 = true ↔ (v < 0 ∧ 12 * u ≤ -(5 * v) ∧ 5 * v ≤ 12 * u) := by simp [dirB, strB, nearZ, negZ]; omega
 have c7 : dirB (u, u) (v, v) 7 = true ↔ (0 < u ∧ v < 0 ∧ 5 * u ≤ -(12 * v) ∧ -(5 * v) ≤ 12 * u) := by simp [dirB, slaB, negZ]; omega
 unfold setN
 generalize dirB (u, u) (v, v) 0 = b0 at *
 generalize dirB (u, u) (v, v) 1 = b1 at *
 generalize dirB (u, u) (v, v) 2 = b2 at *
 generalize dirB (u, u) (v, v) 3 = b3 at *
 generalize dirB (u, u) (v, v) 4 = b4 at *
 generalize dirB (u, u) (v, v) 5 = b5 at *
 generalize dirB (u, u) (v, v) 6 = b6 at *
 generalize dirB (u, u) (v, v) 7 = b7 at *
 cases b0 <;> cases b1 <;> cases b2 <;> cases b3 <;> cases b4 <;> cases b5 <;> cases b6 <;> cases b7 <;> first | decide | (exfalso; simp only [Bool.false_eq_true, false_iff, true_iff] at *; omega)
/-- the opposite vector, and the one that is turned -/
theorem turn_bits (f g h : Nat → Bool) (hg : ∀ d, d < 8 → g d = f ((d + 4) % 8)) (hh : ∀ d, d < 8 → h d = f ((d + 6) % 8)) : setN g = setN f * 16 % 256 + setN f / 16 ∧ setN h = setN f * 4 % 256 + setN f / 64 := by
 have k : ∀ (b0 b1 b2 b3 b4 b5 b6 b7 : Bool), (bv b4 1 + bv b5 2 + bv b6 4 + bv b7 8 + bv b0 16 + bv b1 32 + bv b2 64 + bv b3 128 = (bv b0 1 + bv b1 2 + bv b2 4 + bv b3 8 + bv b4 16 + bv b5 32 + bv b6 64 + bv b7 128) * 16 % 256 + (bv b0 1 + bv b1 2 + bv b2 4 + bv b3 8 + bv b4 16 + bv b5 32 + bv b6 64 + bv b7 128) / 16) ∧
  (bv b6 1 + bv b7 2 + bv b0 4 + bv b1 8 + bv b2 16 + bv b3 32 + bv b4 64 + bv b5 128 = (bv b0 1 + bv b1 2 + bv b2 4 + bv b3 8 + bv b4 16 + bv b5 32 + bv b6 64 + bv b7 128) * 4 % 256 + (bv b0 1 + bv b1 2 + bv b2 4 + bv b3 8 + bv b4 16 + bv b5 32 + bv b6 64 + bv b7 128) / 64) := by decide +kernel
 have q := k (f 0) (f 1) (f 2) (f 3) (f 4) (f 5) (f 6) (f 7)
 have g0 := hg 0 (by omega)
 have g1 := hg 1 (by omega)
 have g2 := hg 2 (by omega)
 have g3 := hg 3 (by omega)
 have g4 := hg 4 (by omega)
 have g5 := hg 5 (by omega)
 have g6 := hg 6 (by omega)
 have g7 := hg 7 (by omega)
 have h0 := hh 0 (by omega)
 have h1 := hh 1 (by omega)
 have h2 := hh 2 (by omega)
 have h3 := hh 3 (by omega)
 have h4 := hh 4 (by omega)
 have h5 := hh 5 (by omega)
 have h6 := hh 6 (by omega)
 have h7 := hh 7 (by omega)
 unfold setN
 rw [g0, g1, g2, g3, g4, g5, g6, g7, h0, h1, h2, h3, h4, h5, h6, h7]
 exact q
theorem neg_pt (u : Int) : negZ (u, u) = (-u, -u) := rfl
theorem near_neg (q : Int × Int) : nearZ (negZ q) = nearZ q := by unfold nearZ negZ; simp only; omega
theorem neg_neg (q : Int × Int) : negZ (negZ q) = q := by unfold negZ; simp
theorem str_neg (p q : Int × Int) : strB p (negZ q) = strB p q := by unfold strB; rw [near_neg]
theorem sla_comm (p q : Int × Int) : slaB p q = slaB q p := by unfold slaB; congr 1; rw [eq_iff_iff]; omega
theorem dirB_opp (p q : Int × Int) (d : Nat) (hd : d < 8) : dirB (negZ p) (negZ q) d = dirB p q ((d + 4) % 8) := by
 rcases dir_cases hd with rfl | rfl | rfl | rfl | rfl | rfl | rfl | rfl <;> simp [dirB, neg_neg, str_neg]
theorem dirB_turn (p q : Int × Int) (d : Nat) (hd : d < 8) : dirB (negZ q) p d = dirB p q ((d + 6) % 8) := by
 rcases dir_cases hd with rfl | rfl | rfl | rfl | rfl | rfl | rfl | rfl <;> simp [dirB, neg_neg, str_neg, sla_comm]
 all_goals first | exact sla_comm _ _ | rfl
theorem vec_turns {u v : Int} (h : ¬ (u = 0 ∧ v = 0)) : dirN (-u, -u) (-v, -v) = dirN (u, u) (v, v) * 16 % 256 + dirN (u, u) (v, v) / 16 ∧ dirN (-v, -v) (u, u) = dirN (u, u) (v, v) * 4 % 256 + dirN (u, u) (v, v) / 64 := by
 have n1 : ¬ (has0 (u, u) = true ∧ has0 (v, v) = true) := by unfold has0; simp only [decide_eq_true_iff]; omega
 have n2 : ¬ (has0 (-u, -u) = true ∧ has0 (-v, -v) = true) := by unfold has0; simp only [decide_eq_true_iff]; omega
 have n3 : ¬ (has0 (-v, -v) = true ∧ has0 (u, u) = true) := by unfold has0; simp only [decide_eq_true_iff]; omega
 unfold dirN
 rw [if_neg n1, if_neg n2, if_neg n3]
 exact turn_bits _ _ _ (fun d hd => by rw [← neg_pt, ← neg_pt]; exact dirB_opp _ _ d hd) (fun d hd => by rw [← neg_pt]; exact dirB_turn _ _ d hd)
theorem vec_one {u v : Int} (h : ¬ (u = 0 ∧ v = 0)) : okN (dirN (u, u) (v, v)) = true := by
 have n1 : ¬ (has0 (u, u) = true ∧ has0 (v, v) = true) := by unfold has0; simp only [decide_eq_true_iff]; omega
 unfold dirN
 rw [if_neg n1]
 exact vec_ok h
theorem vec_zero : dirN (0, 0) (0, 0) = 255 := by decide
theorem ok_pos {n : Nat} (h : okN n = true) : 1 ≤ n := by
 rcases Nat.eq_zero_or_pos n with rfl | h1
 · exact absurd h (by decide)
 · exact h1
/-- spans have a direction -/
theorem dir_pos {p q : Int × Int} (hp : p.1 ≤ p.2) (hq : q.1 ≤ q.2) : 1 ≤ dirN p q := by
 have h := dir_in (p' := (p.1, p.1)) (q' := (q.1, q.1)) (p := p) (q := q) ⟨Int.le_refl _, Int.le_refl _, hp⟩ ⟨Int.le_refl _, Int.le_refl _, hq⟩
 have h1 : 1 ≤ dirN (p.1, p.1) (q.1, q.1) := by
  by_cases h0 : p.1 = 0 ∧ q.1 = 0
  · rw [h0.1, h0.2, vec_zero]; omega
  · exact ok_pos (vec_one h0)
 have h2 : dirN (p.1, p.1) (q.1, q.1) &&& dirN p q ≤ dirN p q := Nat.and_le_right
 omega
/-! The wind of a storm. -/
def eastZ (g : G) (s : So) (c : Int) : Int × Int := (c % g.W * g.S - s.x.2, c % g.W * g.S - s.x.1)
def northZ (g : G) (s : So) (c : Int) : Int × Int := (c / g.W * g.S - s.y.2, c / g.W * g.S - s.y.1)
def farsZ (g : G) (s : So) (c : Int) : Int × Int := distZ (eastZ g s c) (northZ g s c)
def blowZ (g : G) (s : So) (c : Int) : Wi := ⟨speedZ s (farsZ g s c), dirN (negZ (northZ g s c)) (eastZ g s c), lowZ s (farsZ g s c)⟩
theorem soE_zero {s : So} (h : soE s = 0) : (spOk (-1000000) 1000000 s.x = true ∧ spOk (-1000000) 1000000 s.y = true ∧ 1 ≤ s.r ∧ s.r ≤ 1000000) ∧ spOk 0 10000 s.m = true ∧ spOk 0 20000 s.p = true := by
 unfold soE at h
 split at h
 · assumption
 · cases h
theorem blow_in {g : G} {s t : So} {c : Int} (hs : soE s = 0) (hr : t.r = s.r) (hx : Lie t.x s.x) (hy : Lie t.y s.y) (hm : Lie t.m s.m) (hp : Lie t.p s.p) :
 Lie (blowZ g t c).s (blowZ g s c).s ∧ Lie (blowZ g t c).p (blowZ g s c).p ∧ (dirN (negZ (northZ g t c)) (eastZ g t c) &&& dirN (negZ (northZ g s c)) (eastZ g s c) = dirN (negZ (northZ g t c)) (eastZ g t c)) ∧ wiE (blowZ g s c) = 0 := by
 obtain ⟨⟨h1, h2, h3, h4⟩, h5, h6⟩ := soE_zero hs
 have h5 := spOk_iff.1 h5
 have h6 := spOk_iff.1 h6
 have he : Lie (eastZ g t c) (eastZ g s c) := by unfold Lie at *; unfold eastZ; simp only; omega
 have hn : Lie (northZ g t c) (northZ g s c) := by unfold Lie at *; unfold northZ; simp only; omega
 have hd := dist_in he hn
 have hd0 := (dist_in (Lie.self he.valid) (Lie.self hn.valid)).2.1
 have hnn := neg_in hn
 have sr := speed_rng (s := s) (r := farsZ g s c) h3 h5.2.1 h5.1 hd.1 hd0
 refine ⟨speed_in h3 hr (by omega) hm hd.1 hd.2, low_in hr (by omega) hp hd.2, dir_in hnn he, ?_⟩
 have dp := dir_pos (p := negZ (northZ g s c)) (q := eastZ g s c) hnn.valid he.valid
 have dl := dirN_lt (negZ (northZ g s c)) (eastZ g s c)
 unfold wiE blowZ
 rw [if_pos]
 refine ⟨spOk_iff.2 ⟨sr.2.1, sr.1, by simp only; omega⟩, spOk_iff.2 ?_, by simp only; omega, by simp only; omega⟩
 simp only
 unfold lowZ
 split
 · simp only
   omega
 · omega
end Go.Proofs.YtdhcdgfpkjdihaaDoor.Sg
