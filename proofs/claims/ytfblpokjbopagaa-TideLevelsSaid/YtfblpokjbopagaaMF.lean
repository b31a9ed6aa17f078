/-
  Layer 2, the reference: times, cosine, point, has, bounds, Cos.
-/
import Derived.Test.YtfblpokjbopagaaMC
import Derived.Test.YtfblpokjbopagaaMA
import Derived.Test.YtfblpokjbopagaaProg
set_option linter.unusedSimpArgs false
set_option linter.unusedVariables false
namespace Go.Proofs.Ytfblpokjbopagaa
open Go.RowKit

theorem w64 {a : Int} (h : -9223372036854775808 ≤ a ∧ a ≤ 9223372036854775807) : wrap64 a = a := IntWalk.wrap64_in a h
set_option maxHeartbeats 1000000 in
theorem rtimes_any (a b : Int) (w : World) (ha : 0 ≤ a ∧ a ≤ 1152921504606846976) (hb : 0 ≤ b ∧ b ≤ 1152921504606846976) :
    Calls Try.prog 71 #[.int .i64 a, .int .i64 b] w fun e w' => e = .returned (.int .i64 (timesZ a b)) ∧ w = w' := by
  have a1 : 0 ≤ a / 1073741824 ∧ a / 1073741824 ≤ 1073741824 := by omega
  have a0 : 0 ≤ a % 1073741824 ∧ a % 1073741824 ≤ 1073741823 := by omega
  have b1 : 0 ≤ b / 1073741824 ∧ b / 1073741824 ≤ 1073741824 := by omega
  have b0 : 0 ≤ b % 1073741824 ∧ b % 1073741824 ≤ 1073741823 := by omega
  have m1 := mul_rng a1.1 a1.2 b1.1 b1.2
  have m2 := mul_rng a1.1 a1.2 b0.1 b0.2
  have m3 := mul_rng a0.1 a0.2 b1.1 b1.2
  have m4 := mul_rng a0.1 a0.2 b0.1 b0.2
  have w1 : wrap64 (a / 1073741824 * (b / 1073741824)) = a / 1073741824 * (b / 1073741824) := w64 (by omega)
  have w2 : wrap64 (a / 1073741824 * (b % 1073741824)) = a / 1073741824 * (b % 1073741824) := w64 (by omega)
  have w3 : wrap64 (a % 1073741824 * (b / 1073741824)) = a % 1073741824 * (b / 1073741824) := w64 (by omega)
  have w4 : wrap64 (a % 1073741824 * (b % 1073741824)) = a % 1073741824 * (b % 1073741824) := w64 (by omega)
  have H : Hid (wrap64 (a / 1073741824 * (b / 1073741824) + wrap64 (wrap64 (a / 1073741824 * (b % 1073741824) + a % 1073741824 * (b / 1073741824)) + a % 1073741824 * (b % 1073741824) / 1073741824) / 1073741824) = timesZ a b) := by
    rw [Hid, w64 (a := a / 1073741824 * (b % 1073741824) + a % 1073741824 * (b / 1073741824)) (by omega), w64 (a := a / 1073741824 * (b % 1073741824) + a % 1073741824 * (b / 1073741824) + _) (by omega), w64 (by omega)]
    rfl
  clear m1 m2 m3 m4
  go_enter Try.func71, Try.ntmps71
  go_wp2
  go_ret
  rw [w1, w2, w3, w4]
  rw [H.out]
  exact ⟨rfl, rfl⟩
theorem pow_half {f : Nat} {t u : Int} (h : t < 2 ^ (f + 1)) (h2 : u * 2 ≤ t) : u < 2 ^ f := by
  rw [Int.pow_succ] at h
  omega
set_option maxHeartbeats 1000000 in
theorem rcosine_any (k : Int) (sine : Bool) (w : World) (hk : 0 ≤ k ∧ k ≤ 450) :
    Calls Try.prog 68 #[.int .i64 k, .bool sine] w fun e w' => e = .returned (.int .i64 (cosZ k sine)) ∧ w = w' := by
  have hx := angZ_rng hk.1 hk.2
  have w3 : 2012227627243645 * k + 421 * k / 1800 = angZ k := by unfold angZ; omega
  obtain ⟨x, hX⟩ : ∃ x, angZ k = x := ⟨_, rfl⟩
  have HC : Hid (cosZ k sine = cosLoop x 61 (if sine then 1 else 0) (if sine then x else 1152921504606846976) 0 1) := by
    rw [Hid, ← hX]
    unfold cosZ
    cases sine <;> rfl
  obtain ⟨T, hT⟩ : ∃ T, cosZ k sine = T := ⟨_, rfl⟩
  have HT := Lib.hid (HC.out.symm.trans hT)
  rw [hT]
  rw [hX] at hx w3
  clear hX hT HC
  go_enter Try.func68, Try.ntmps68
  cases sine
  all_goals
    go_wp2_with fail
    go_loopw [6, 7, 8, 9] (fun n t s g wr => ∃ (f n' : Nat) (t' s' g' : Int), n = .int .i64 n' ∧ t = .int .i64 t' ∧ s = .int .i64 s' ∧ g = .int .i64 g' ∧ f ≤ 61 ∧ n' + 2 * f ≤ 123 ∧ 0 ≤ t' ∧ Hid (t' < 2 ^ f) ∧ t' ≤ 1152921504606846976 ∧ -2305843009213693952 ≤ s' - 2 * t' ∧ s' + 2 * t' ≤ 2305843009213693952 ∧ (g' = 1 ∨ g' = -1) ∧ Hid (cosLoop x f n' t' s' g' = T) ∧ w = wr) (fun n t s g wr => (intOf t).toNat)
    case atStart =>
      first
        | refine ⟨61, 0, _, _, _, rfl, rfl, rfl, rfl, by omega, by omega, by omega, ?_, by omega, by omega, by omega, .inl rfl, HT.out, rfl⟩
        | refine ⟨61, 1, _, _, _, rfl, rfl, rfl, rfl, by omega, by omega, by omega, ?_, by omega, by omega, by omega, .inl rfl, HT.out, rfl⟩
      rw [Hid, show (2 : Int) ^ 61 = 2305843009213693952 from rfl]
      omega
    case round =>
      obtain ⟨f, n, t, s, g, rfl, rfl, rfl, rfl, hf, hn, ht0, Htf, ht1, hs0, hs1, hg, HL, rfl⟩ := hrel
      by_cases hpos : 0 < t
      · obtain ⟨f, rfl⟩ : ∃ f', f = f' + 1 := ⟨f - 1, by
          rcases Nat.eq_zero_or_pos f with h | h
          · have := Htf.out
            subst h
            simp at this
            omega
          · omega⟩
        have HL' : Hid (cosLoop x f ((n : Int) + 2) (nextZ x n t) (s + g * t) (-g) = T) := by
          have h := HL.out
          unfold cosLoop at h
          rw [if_pos hpos] at h
          exact h
        have hnx := nextZ_le (n := n) hx.1 hx.2 (by omega) ht0
        have Hpw : Hid (nextZ x n t < 2 ^ f) := pow_half Htf.out hnx.2
        have ht1' := timesZ_le1 ht0 hx.1 hx.2
        have ht2' := timesZ_le1 ht1'.1 hx.1 hx.2
        have hm := mul_rng (a := (n : Int) + 1) (A := 124) (b := (n : Int) + 2) (B := 125) (by omega) (by omega) (by omega) (by omega)
        have hm2 : 0 < ((n : Int) + 1) * ((n : Int) + 2) := Int.mul_pos (by omega) (by omega)
        have HQ : Hid (timesZ (timesZ t x) x / (((n : Int) + 1) * ((n : Int) + 2)) = nextZ x n t) := rfl
        have HQ2 : Hid ((timesZ (timesZ t x) x).tdiv (((n : Int) + 1) * ((n : Int) + 2)) = nextZ x n t) := by
          rw [Hid, Int.tdiv_eq_ediv_of_nonneg ht2'.1]; rfl
        obtain ⟨d, hd⟩ : ∃ d, ((n : Int) + 1) * ((n : Int) + 2) = d := ⟨_, rfl⟩
        rw [hd] at hm hm2 HQ HQ2
        clear HL Htf
        rcases hg with rfl | rfl
        all_goals
          go_wp2_with fail
          refine (rtimes_any _ _ _ ⟨by omega, by omega⟩ hx).mono ?_
          rintro e w1 ⟨rfl, rfl⟩
          go_wp2_with fail
          refine (rtimes_any _ _ _ ⟨by omega, by omega⟩ hx).mono ?_
          rintro e w1 ⟨rfl, rfl⟩
          go_wp2
          go_roundw
          case rel => exact ⟨f, n + 2, nextZ x n t, _, _, by go_num, by rw [HQ.out], rfl, rfl, by omega, by omega, hnx.1, Hpw.out, by omega, by omega, by omega, by omega, by have h := HL'.out; rw [Hid]; simpa using h, by first | exact rfl | exact True.intro⟩
          case measure => rw [HQ.out]; simp [intOf]; omega
      · have HT' : Hid (s = T) := by
          have h := HL.out
          cases f with
          | zero => exact h
          | succ f => unfold cosLoop at h; rw [if_neg hpos] at h; exact h
        go_wp2
        go_ret
        rw [HT'.out]
        exact ⟨rfl, rfl⟩
theorem tdiv_down {a b : Int} (hb : 0 < b) : (a.tmod b < 0 → a.tdiv b - 1 = downZ a b) ∧ (0 ≤ a.tmod b → a.tdiv b = downZ a b) := by
  have e := Int.mul_tdiv_add_tmod a b
  have l := Int.tmod_lt_of_pos a hb
  have l2 := Int.lt_tmod_of_pos a hb
  unfold downZ
  constructor
  · intro h
    have k := (Int.ediv_emod_unique hb (q := a.tdiv b - 1) (r := a.tmod b + b) (a := a)).2 ⟨by rw [Int.mul_sub]; omega, by omega, by omega⟩
    exact k.1.symm
  · intro h
    have k := (Int.ediv_emod_unique hb (q := a.tdiv b) (r := a.tmod b) (a := a)).2 ⟨by omega, by omega, by omega⟩
    exact k.1.symm
theorem down_rng {a b M : Int} (hb : 0 < b) (ha : -M ≤ a ∧ a ≤ M) : -M ≤ downZ a b ∧ downZ a b ≤ M := by
  unfold downZ
  have h1 := Int.ediv_mul_le a (show b ≠ 0 by omega)
  have h2 := Int.lt_ediv_add_one_mul_self a hb
  constructor
  · rcases Int.lt_or_le (a / b) (-M) with h | h
    · have : (a / b + 1) * b ≤ (a / b + 1) * 1 := Int.mul_le_mul_of_nonpos_left (by omega) (by omega)
      omega
    · exact h
  · rcases Int.lt_or_le M (a / b) with h | h
    · have : a / b * 1 ≤ a / b * b := Int.mul_le_mul_of_nonneg_left (by omega) (by omega)
      omega
    · exact h
theorem rdown_any (a b : Int) (w : World) (ha : -9000000000000000000 ≤ a ∧ a ≤ 9000000000000000000) (hb : 0 < b) :
    Calls Try.prog 60 #[.int .i64 a, .int .i64 b] w fun e w' => e = .returned (.int .i64 (downZ a b)) ∧ w = w' := by
  have k := tdiv_down (a := a) hb
  have r := down_rng hb ha
  by_cases h : a.tmod b < 0
  · have e := k.1 h
    have w1 : wrap64 (a.tdiv b - 1) = downZ a b := by rw [e]; exact w64 (by omega)
    clear k e
    go_enter Try.func60, Try.ntmps60
    go_wp2
    go_ret
    rw [w1]
    exact ⟨rfl, rfl⟩
  · have w1 := k.2 (by omega)
    have h' : 0 ≤ a.tmod b := by omega
    clear k
    go_enter Try.func60, Try.ntmps60
    go_wp2
    go_ret
    exact ⟨rfl, rfl⟩
theorem rup_any (a b : Int) (w : World) (ha : -9000000000000000000 ≤ a ∧ a ≤ 9000000000000000000) (hb : 0 < b) :
    Calls Try.prog 61 #[.int .i64 a, .int .i64 b] w fun e w' => e = .returned (.int .i64 (upZ a b)) ∧ w = w' := by
  have r := down_rng hb (a := -a) (M := 9000000000000000000) ⟨by omega, by omega⟩
  go_enter Try.func61, Try.ntmps61
  go_wp2_with fail
  refine (rdown_any _ _ _ ⟨by omega, by omega⟩ hb).mono ?_
  rintro e w1 ⟨rfl, rfl⟩
  go_wp2
  go_ret
  exact ⟨rfl, rfl⟩
theorem rhas_any (lo hi k : Int) (w : World) (h1 : -4398046511104 ≤ lo ∧ lo ≤ 4398046511104) (h2 : -4398046511104 ≤ hi ∧ hi ≤ 4398046511104) (hk : 0 ≤ k ∧ k ≤ 3600) :
    Calls Try.prog 54 #[.agg #[.int .i64 lo, .int .i64 hi], .int .i64 k] w fun e w' => e = .returned (.bool (hasZ (lo, hi) k)) ∧ Below w.heap.size w w' := by
  have q1 : IntKind.i64.wrap (hi - k) = hi - k := IntWalk.i64_in _ (by omega)
  have q2 : IntKind.i64.wrap (lo - k) = lo - k := IntWalk.i64_in _ (by omega)
  go_enter Try.func54, Try.ntmps54
  go_wp2_with fail
  go_quiet (first | (go_at_call 60; exact quiet_left (rdown_any _ _ _ ⟨by omega, by omega⟩ (by omega))) | (go_at_call 61; exact quiet_left (rup_any _ _ _ ⟨by omega, by omega⟩ (by omega))))
  all_goals
    go_wp2
    go_ret
    exact ⟨rfl, (by repeat (first | exact Below.refl _ _ | assumption | refine Below.drew ?_ | refine Below.drewN' ?_ _ | (refine Below.alloc ?_ (by simp <;> omega) _) | (refine Below.setCell ?_ (by simp <;> omega) _)))⟩
theorem rwithin_any (a b lo hi : Int) (w : World) :
    Calls Try.prog 38 #[.agg #[.int .i64 a, .int .i64 b], .int .i64 lo, .int .i64 hi] w fun e w' => e = .returned (.bool (decide (a ≤ b ∧ lo ≤ a ∧ b ≤ hi))) ∧ Below w.heap.size w w' := by
  by_cases h1 : a ≤ b
  all_goals by_cases h2 : lo ≤ a
  all_goals by_cases h3 : b ≤ hi
  all_goals
    go_enter Try.func38, Try.ntmps38
    go_wp2
    go_ret
    exact ⟨by simp [h1, h2, h3], (by repeat (first | exact Below.refl _ _ | assumption | refine Below.drew ?_ | refine Below.drewN' ?_ _ | (refine Below.alloc ?_ (by simp <;> omega) _) | (refine Below.setCell ?_ (by simp <;> omega) _)))⟩
theorem cosZ_rng {k : Int} (h0 : 0 ≤ k) (h1 : k ≤ 900) : 0 ≤ c60 k ∧ c60 k ≤ 1152921504606846976 := ⟨(c60_near h0 h1).1, (c60_near h0 h1).2.1⟩
theorem quart_ne {k : Int} (h0 : k ≠ 0) (h6 : k ≠ 600) (h9 : k ≠ 900) : quartZ k = ((c60 k - 100) / 17592186044416, (c60 k + 100) / 17592186044416 + 1) := by
  unfold quartZ c60
  rw [if_neg h0, if_neg h6, if_neg h9]
/-- an angle of a quarter, as it stands behind the turns -/
theorem fold_go (a : Int) : ((a.tmod 3600 + 3600).tmod 3600 = a % 3600) := by
  have e : a.tmod 3600 + 3600 = a.tmod 3600 + 3600 := rfl
  have h1 := Int.tmod_lt_of_pos a (show (0 : Int) < 3600 by omega)
  have h2 := Int.lt_tmod_of_pos a (show (0 : Int) < 3600 by omega)
  rw [Int.tmod_eq_emod_of_nonneg (by omega)]
  have h3 := Int.mul_tdiv_add_tmod a 3600
  omega
theorem rcosine_lo (k : Int) (w : World) (h0 : 0 ≤ k) (h1 : k ≤ 450) :
    Calls Try.prog 68 #[.int .i64 k, .bool false] w fun e w' => e = .returned (.int .i64 (c60 k)) ∧ w = w' := by
  have h := rcosine_any k false w ⟨h0, h1⟩
  unfold c60
  rw [if_pos h1]
  exact h
theorem rcosine_hi (k : Int) (w : World) (h0 : 450 < k) (h1 : k ≤ 900) :
    Calls Try.prog 68 #[.int .i64 (900 - k), .bool true] w fun e w' => e = .returned (.int .i64 (c60 k)) ∧ w = w' := by
  have h := rcosine_any (900 - k) true w ⟨by omega, by omega⟩
  unfold c60
  rw [if_neg (by omega)]
  exact h
set_option maxHeartbeats 2000000 in
theorem rpoint_q (a k : Int) (w : World) (h0 : 0 ≤ k) (h1 : k ≤ 900) (hk : foldZ a = k) :
    Calls Try.prog 53 #[.int .i64 a] w fun e w' => e = .returned (.agg #[.int .i64 (quartZ k).1, .int .i64 (quartZ k).2]) ∧ Below w.heap.size w w' := by
  have hg := fold_go a
  have hf : a % 3600 = k ∨ (1800 < a % 3600 ∧ 3600 - a % 3600 = k) := by unfold foldZ at hk; simp only at hk; split at hk <;> omega
  obtain ⟨m, hm⟩ : ∃ m, a % 3600 = m := ⟨_, rfl⟩
  rw [hm] at hg hf
  have hm0 : 0 ≤ m ∧ m < 3600 := by omega
  have r1 := Int.tmod_lt_of_pos a (show (0 : Int) < 3600 by omega)
  have r2 := Int.lt_tmod_of_pos a (show (0 : Int) < 3600 by omega)
  clear hm hk
  have hc : (k = 0 ∨ k = 600 ∨ k = 900) ∨ (¬ k = 0 ∧ ¬ k = 600 ∧ ¬ k = 900 ∧ k ≤ 450) ∨ (¬ k = 0 ∧ ¬ k = 600 ∧ ¬ k = 900 ∧ 450 < k) := by omega
  rcases hc with hc | ⟨c0, c6, c9, hl⟩ | ⟨c0, c6, c9, hl⟩
  · have HQ : Hid (quartZ k = if k = 0 then (65536, 65536) else if k = 600 then (32768, 32768) else (0, 0)) := by
      rcases hc with rfl | rfl | rfl <;> rfl
    rw [HQ.out]
    clear HQ
    rcases hc with rfl | rfl | rfl
    · obtain rfl : m = 0 := by omega
      go_enter Try.func53, Try.ntmps53
      go_wp2
      refine bodyPost_ret (v := .agg #[.int .i64 _, .int .i64 _]) (by simp [results, Try.results53, go_sem]) rfl ⟨rfl, ?_⟩
      exact (by repeat (first | exact Below.refl _ _ | assumption | refine Below.drew ?_ | refine Below.drewN' ?_ _ | (refine Below.alloc ?_ (by simp <;> omega) _) | (refine Below.setCell ?_ (by simp <;> omega) _)))
    · obtain rfl | rfl : m = 600 ∨ m = 3000 := by omega
      all_goals
        go_enter Try.func53, Try.ntmps53
        go_wp2
        refine bodyPost_ret (v := .agg #[.int .i64 _, .int .i64 _]) (by simp [results, Try.results53, go_sem]) rfl ⟨rfl, ?_⟩
        exact (by repeat (first | exact Below.refl _ _ | assumption | refine Below.drew ?_ | refine Below.drewN' ?_ _ | (refine Below.alloc ?_ (by simp <;> omega) _) | (refine Below.setCell ?_ (by simp <;> omega) _)))
    · obtain rfl | rfl : m = 900 ∨ m = 2700 := by omega
      all_goals
        go_enter Try.func53, Try.ntmps53
        go_wp2
        refine bodyPost_ret (v := .agg #[.int .i64 _, .int .i64 _]) (by simp [results, Try.results53, go_sem]) rfl ⟨rfl, ?_⟩
        exact (by repeat (first | exact Below.refl _ _ | assumption | refine Below.drew ?_ | refine Below.drewN' ?_ _ | (refine Below.alloc ?_ (by simp <;> omega) _) | (refine Below.setCell ?_ (by simp <;> omega) _)))
  · have HQ := Lib.hid (quart_ne c0 c6 c9)
    rw [HQ.out]
    clear HQ
    have hr := cosZ_rng h0 h1
    have b0 : (k == 0) = false := beq_eq_false_iff_ne.2 c0
    have b6 : (k == 600) = false := beq_eq_false_iff_ne.2 c6
    have b9 : (k == 900) = false := beq_eq_false_iff_ne.2 c9
    rcases hf with rfl | ⟨hf, hk⟩
    all_goals
      go_enter Try.func53, Try.ntmps53
      go_wp2_with fail
      refine (rcosine_lo _ _ h0 hl).mono ?_
      rintro e w1 ⟨rfl, rfl⟩
      go_wp2
      refine bodyPost_ret (v := .agg #[.int .i64 _, .int .i64 _]) (by simp [results, Try.results53, go_sem]) rfl ⟨rfl, ?_⟩
      exact (by repeat (first | exact Below.refl _ _ | assumption | refine Below.drew ?_ | refine Below.drewN' ?_ _ | (refine Below.alloc ?_ (by simp <;> omega) _) | (refine Below.setCell ?_ (by simp <;> omega) _)))
  · have HQ := Lib.hid (quart_ne c0 c6 c9)
    rw [HQ.out]
    clear HQ
    have hr := cosZ_rng h0 h1
    have b0 : (k == 0) = false := beq_eq_false_iff_ne.2 c0
    have b6 : (k == 600) = false := beq_eq_false_iff_ne.2 c6
    have b9 : (k == 900) = false := beq_eq_false_iff_ne.2 c9
    rcases hf with rfl | ⟨hf, hk⟩
    all_goals
      go_enter Try.func53, Try.ntmps53
      go_wp2_with fail
      refine (rcosine_hi _ _ hl h1).mono ?_
      rintro e w1 ⟨rfl, rfl⟩
      go_wp2
      refine bodyPost_ret (v := .agg #[.int .i64 _, .int .i64 _]) (by simp [results, Try.results53, go_sem]) rfl ⟨rfl, ?_⟩
      exact (by repeat (first | exact Below.refl _ _ | assumption | refine Below.drew ?_ | refine Below.drewN' ?_ _ | (refine Below.alloc ?_ (by simp <;> omega) _) | (refine Below.setCell ?_ (by simp <;> omega) _)))
theorem rpoint_any (a : Int) (w : World) (ha : -4398046511104 ≤ a ∧ a ≤ 4398046511104) :
    Calls Try.prog 53 #[.int .i64 a] w fun e w' => e = .returned (.agg #[.int .i64 (pointZ a).1, .int .i64 (pointZ a).2]) ∧ Below w.heap.size w w' := by
  have hF := foldZ_rng a
  by_cases hle : foldZ a ≤ 900
  · have h := rpoint_q a (foldZ a) w hF.1 hle rfl
    have e : pointZ a = quartZ (foldZ a) := by unfold pointZ; rw [if_neg (by omega)]
    rw [e]
    exact h
  · have e : pointZ a = (-(quartZ (1800 - foldZ a)).2, -(quartZ (1800 - foldZ a)).1) := by unfold pointZ; rw [if_pos (by omega)]
    rw [e]
    have hg := fold_go a
    obtain ⟨k, hk⟩ : ∃ k, foldZ a = k := ⟨_, rfl⟩
    have hf : a % 3600 = k ∨ (1800 < a % 3600 ∧ 3600 - a % 3600 = k) := by unfold foldZ at hk; simp only at hk; split at hk <;> omega
    rw [hk] at hF hle ⊢
    obtain ⟨m, hm⟩ : ∃ m, a % 3600 = m := ⟨_, rfl⟩
    rw [hm] at hg hf
    have hm0 : 0 ≤ m ∧ m < 3600 := by omega
    have r1 := Int.tmod_lt_of_pos a (show (0 : Int) < 3600 by omega)
    have r2 := Int.lt_tmod_of_pos a (show (0 : Int) < 3600 by omega)
    have hq := quart_rng (k := 1800 - k) (by omega) (by omega)
    have HF : Hid (foldZ (1800 - k) = 1800 - k) := by rw [Hid]; unfold foldZ; simp only; split <;> omega
    clear hm hk e
    rcases hf with rfl | ⟨hf, hk⟩
    all_goals
      go_enter Try.func53, Try.ntmps53
      go_wp2_with fail
      refine (rpoint_q _ _ _ (by omega) (by omega) HF.out).mono ?_
      rintro e w1 ⟨rfl, hb⟩
      have hB : Blk w1 w.heap.size 23 #[.int .i64 0, .int .i64 0] := Blk.below (Blk.new' w _ _ rfl) hb (by simp)
      obtain ⟨y0, y1, z0, z1⟩ := span_parts hB
      have hlt := hB.lt
      have hb' : Below w.heap.size w w1 := ((Below.refl _ _).alloc (Nat.le_refl _) _).trans (hb.mono (by simp))
      clear hb
      go_wp2
      have hR := fun x y o => span_res hB x y o
      refine bodyPost_ret (v := .agg #[.int .i64 _, .int .i64 _]) (by simp [results, Try.results53, go_sem, hR]) rfl ⟨rfl, ?_⟩
      exact (by repeat (first | exact Below.refl _ _ | assumption | refine Below.drew ?_ | refine Below.drewN' ?_ _ | (refine Below.alloc ?_ (by simp <;> omega) _) | (refine Below.setCell ?_ (by simp <;> omega) _)))
end Go.Proofs.Ytfblpokjbopagaa
