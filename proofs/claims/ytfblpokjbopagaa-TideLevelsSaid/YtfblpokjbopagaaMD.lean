/-
  Layer 2: models, their level bounds, and what the laws ask of them. A part is (Amp, Period, Phase).
-/
import Derived.Test.YtfblpokjbopagaaMC
set_option linter.unusedSimpArgs false
set_option linter.unusedVariables false
namespace Go.Proofs.Ytfblpokjbopagaa

abbrev Prt := Int × Int × Int
structure Md where
  mean : Int
  ps : List Prt
def partOk (p : Prt) : Bool := decide (0 ≤ p.1 ∧ p.1 ≤ 1000 ∧ 1 ≤ p.2.1 ∧ p.2.1 ≤ 1000000000 ∧ 0 ≤ p.2.2 ∧ p.2.2 < 3600)
def mdE (m : Md) : Int := if -10000 ≤ m.mean ∧ m.mean ≤ 10000 then (if m.ps.length ≤ 16 then (if m.ps.all partOk then 0 else 3) else 9) else 3
def sumF (f : Prt → Int) : List Prt → Int
  | [] => 0
  | p :: ps => f p + sumF f ps
theorem sumF_append (f : Prt → Int) (a b : List Prt) : sumF f (a ++ b) = sumF f a + sumF f b := by
  induction a with
  | nil => simp [sumF]
  | cons p a ih => simp only [List.cons_append, sumF, ih]; omega
theorem sumF_snoc (f : Prt → Int) (a : List Prt) (p : Prt) : sumF f (a ++ [p]) = sumF f a + f p := by
  rw [sumF_append]
  simp [sumF]
theorem sumF_le {f g : Prt → Int} {ps : List Prt} (h : ∀ p, p ∈ ps → f p ≤ g p) : sumF f ps ≤ sumF g ps := by
  induction ps with
  | nil => exact Int.le_refl _
  | cons p ps ih =>
    have h1 := h p (List.mem_cons_self ..)
    have h2 := ih (fun q hq => h q (List.mem_cons_of_mem _ hq))
    unfold sumF
    omega
theorem sumF_add (f g : Prt → Int) (ps : List Prt) : sumF (fun p => f p + g p) ps = sumF f ps + sumF g ps := by
  induction ps with
  | nil => rfl
  | cons p ps ih => simp only [sumF, ih]; omega
theorem sumF_mul (f : Prt → Int) (c : Int) (ps : List Prt) : sumF (fun p => c * f p) ps = c * sumF f ps := by
  induction ps with
  | nil => simp [sumF]
  | cons p ps ih => simp only [sumF, ih, Int.mul_add]
/-- the angles of a part, the times being within t -/
def angS (t : Int × Int) (p : Prt) : Int × Int := (downZ (3600 * t.1) p.2.1 - p.2.2, upZ (3600 * t.2) p.2.1 - p.2.2)
def loP (t : Int × Int) (p : Prt) : Int := p.1 * (boundsZ (angS t p)).1
def hiP (t : Int × Int) (p : Prt) : Int := p.1 * (boundsZ (angS t p)).2
def levelZ (m : Md) (t : Int × Int) : Int × Int := (m.mean + downZ (sumF (loP t) m.ps) 65536, m.mean + upZ (sumF (hiP t) m.ps) 65536)
def ampP (p : Prt) : Int := p.1
def rangeZ (m : Md) : Int × Int := (m.mean - sumF ampP m.ps, m.mean + sumF ampP m.ps)
def joinZ (a b : Md) : Md := ⟨a.mean + b.mean, a.ps ++ b.ps⟩

theorem part_of {p : Prt} (h : partOk p = true) : 0 ≤ p.1 ∧ p.1 ≤ 1000 ∧ 1 ≤ p.2.1 ∧ p.2.1 ≤ 1000000000 ∧ 0 ≤ p.2.2 ∧ p.2.2 < 3600 := of_decide_eq_true h
theorem down_mono {a b P : Int} (h : a ≤ b) (hP : 0 < P) : downZ a P ≤ downZ b P := Int.ediv_le_ediv hP h
theorem up_mono {a b P : Int} (h : a ≤ b) (hP : 0 < P) : upZ a P ≤ upZ b P := by
  unfold upZ
  have := Int.ediv_le_ediv hP (show -b ≤ -a by omega)
  omega
theorem down_up {a b P : Int} (h : a ≤ b) (hP : 0 < P) : downZ a P ≤ upZ b P := by
  have h1 := down_mono h hP
  have h2 : downZ b P ≤ upZ b P := by
    unfold downZ upZ
    have e1 := Int.ediv_mul_le b (show P ≠ 0 by omega)
    have e2 := Int.ediv_mul_le (-b) (show P ≠ 0 by omega)
    rcases Int.lt_or_le (-(-b / P)) (b / P) with h3 | h3
    · exfalso
      have h4 : 1 * P ≤ (b / P + -b / P) * P := Int.mul_le_mul_of_nonneg_right (by omega) (by omega)
      rw [Int.add_mul] at h4
      omega
    · exact h3
  omega
theorem up_down1 (a : Int) {P : Int} (hP : 0 < P) : upZ a P ≤ downZ a P + 1 := by
  unfold downZ upZ
  have e1 := Int.lt_ediv_add_one_mul_self a hP
  have e2 := Int.lt_ediv_add_one_mul_self (-a) hP
  rcases Int.lt_or_le (a / P + 1) (-(-a / P)) with h3 | h3
  · exfalso
    have h4 : (a / P + 1 + (-a / P + 1)) * P ≤ 0 * P := Int.mul_le_mul_of_nonneg_right (by omega) (by omega)
    rw [Int.add_mul] at h4
    omega
  · exact h3
section
variable {p : Prt} {t u : Int × Int}
theorem ang_ord (hp : partOk p = true) (ht : t.1 ≤ t.2) : (angS t p).1 ≤ (angS t p).2 := by
  have h := part_of hp
  have := down_up (a := 3600 * t.1) (b := 3600 * t.2) (P := p.2.1) (by omega) (by omega)
  unfold angS
  simp only
  omega
theorem ang_mono (hp : partOk p = true) (h1 : u.1 ≤ t.1) (h2 : t.2 ≤ u.2) : (angS u p).1 ≤ (angS t p).1 ∧ (angS t p).2 ≤ (angS u p).2 := by
  have h := part_of hp
  have a1 := down_mono (a := 3600 * u.1) (b := 3600 * t.1) (P := p.2.1) (by omega) (by omega)
  have a2 := up_mono (a := 3600 * t.2) (b := 3600 * u.2) (P := p.2.1) (by omega) (by omega)
  unfold angS
  simp only
  omega
theorem part_mono (hp : partOk p = true) (ht : t.1 ≤ t.2) (h1 : u.1 ≤ t.1) (h2 : t.2 ≤ u.2) : loP u p ≤ loP t p ∧ hiP t p ≤ hiP u p := by
  have h := part_of hp
  have a := ang_mono hp h1 h2
  have b := bounds_mono (ang_ord hp ht) a.1 a.2
  exact ⟨Int.mul_le_mul_of_nonneg_left b.1 h.1, Int.mul_le_mul_of_nonneg_left b.2 h.1⟩
theorem part_rng (hp : partOk p = true) (ht : t.1 ≤ t.2) : -65536 * p.1 ≤ loP t p ∧ loP t p ≤ hiP t p ∧ hiP t p ≤ 65536 * p.1 := by
  have h := part_of hp
  have b := bounds_rng (ang_ord hp ht)
  have c1 := Int.mul_le_mul_of_nonneg_left b.1 h.1
  have c2 := Int.mul_le_mul_of_nonneg_left b.2.1 h.1
  have c3 := Int.mul_le_mul_of_nonneg_left b.2.2 h.1
  unfold loP hiP
  omega
theorem part_near (hp : partOk p = true) (i : Int) : hiP (i, i) p ≤ loP (i, i) p + p.1 * 119 := by
  have h := part_of hp
  have a := ang_ord hp (t := (i, i)) (Int.le_refl _)
  have c := up_down1 (3600 * i) (P := p.2.1) (by omega)
  have b := bounds_near a (by unfold angS; simp only; omega)
  have d := Int.mul_le_mul_of_nonneg_left b h.1
  rw [Int.mul_add] at d
  exact d
end
section
variable {m : Md} {t u : Int × Int}
theorem all_ok (h : m.ps.all partOk = true) : ∀ p, p ∈ m.ps → partOk p = true := List.all_eq_true.1 h
theorem level_mono (h : m.ps.all partOk = true) (ht : t.1 ≤ t.2) (h1 : u.1 ≤ t.1) (h2 : t.2 ≤ u.2) : (levelZ m u).1 ≤ (levelZ m t).1 ∧ (levelZ m t).2 ≤ (levelZ m u).2 := by
  have a := sumF_le (f := loP u) (g := loP t) (fun p hp => (part_mono (all_ok h p hp) ht h1 h2).1)
  have b := sumF_le (f := hiP t) (g := hiP u) (fun p hp => (part_mono (all_ok h p hp) ht h1 h2).2)
  have c := down_mono a (P := 65536) (by omega)
  have d := up_mono b (P := 65536) (by omega)
  unfold levelZ
  simp only
  omega
theorem level_range (h : m.ps.all partOk = true) (ht : t.1 ≤ t.2) : (rangeZ m).1 ≤ (levelZ m t).1 ∧ (levelZ m t).1 ≤ (levelZ m t).2 ∧ (levelZ m t).2 ≤ (rangeZ m).2 := by
  have a := sumF_le (f := fun p => -65536 * ampP p) (g := loP t) (fun p hp => (part_rng (all_ok h p hp) ht).1)
  have b := sumF_le (f := loP t) (g := hiP t) (fun p hp => (part_rng (all_ok h p hp) ht).2.1)
  have c := sumF_le (f := hiP t) (g := fun p => 65536 * ampP p) (fun p hp => (part_rng (all_ok h p hp) ht).2.2)
  rw [sumF_mul] at a c
  unfold levelZ rangeZ downZ upZ
  simp only
  omega
theorem level_near (h : m.ps.all partOk = true) (i : Int) : (levelZ m (i, i)).2 - (levelZ m (i, i)).1 ≤ 2 + sumF (fun p => 1 + p.1 * 120 / 65536) m.ps := by
  have a := sumF_le (f := hiP (i, i)) (g := fun p => loP (i, i) p + 65536 * (1 + p.1 * 120 / 65536)) (fun p hp => by
    have h1 := part_near (all_ok h p hp) i
    have h2 := (part_of (all_ok h p hp)).1
    omega)
  rw [sumF_add, sumF_mul] at a
  unfold levelZ downZ upZ
  simp only
  omega
theorem level_join (a b : Md) (t : Int × Int) : (levelZ (joinZ a b) t).1 = (levelZ (joinZ b a) t).1 ∧ (levelZ (joinZ a b) t).2 = (levelZ (joinZ b a) t).2 := by
  unfold levelZ joinZ
  simp only [sumF_append]
  rw [Int.add_comm (sumF (loP t) a.ps), Int.add_comm (sumF (hiP t) a.ps), Int.add_comm a.mean]
  exact ⟨rfl, rfl⟩
theorem level_sum (a b : Md) (t : Int × Int) : 0 ≤ (levelZ (joinZ a b) t).1 - ((levelZ a t).1 + (levelZ b t).1) ∧ (levelZ (joinZ a b) t).1 - ((levelZ a t).1 + (levelZ b t).1) ≤ 1 ∧
    0 ≤ ((levelZ a t).2 + (levelZ b t).2) - (levelZ (joinZ a b) t).2 ∧ ((levelZ a t).2 + (levelZ b t).2) - (levelZ (joinZ a b) t).2 ≤ 1 := by
  unfold levelZ joinZ downZ upZ
  simp only [sumF_append]
  omega
theorem level_none (mean : Int) (t : Int × Int) : levelZ ⟨mean, []⟩ t = (mean, mean) := by
  unfold levelZ downZ upZ
  simp [sumF]
theorem join_ok {a b : Md} (ha : a.ps.all partOk = true) (hb : b.ps.all partOk = true) : (joinZ a b).ps.all partOk = true := by
  unfold joinZ
  simp only [List.all_append, ha, hb, Bool.and_self]
end
end Go.Proofs.Ytfblpokjbopagaa
/-
  Layer 2: pieces of a span of times, and the highest levels.
-/
namespace Go.Proofs.Ytfblpokjbopagaa

theorem up_rng {d s : Int} (hs : 0 < s) : d ≤ upZ d s * s ∧ (upZ d s - 1) * s < d := by
  have e1 := Int.ediv_mul_le (-d) (show s ≠ 0 by omega)
  have e2 := Int.lt_ediv_add_one_mul_self (-d) hs
  unfold upZ
  rw [Int.add_mul] at e2
  rw [Int.sub_mul, Int.neg_mul]
  omega
/-- how many pieces -/
def nPc (t : Int × Int) (s : Int) : Nat := max 1 (upZ (t.2 - t.1) s).toNat
def pcZ (t : Int × Int) (s : Int) (i : Nat) : Int × Int := (t.1 + i * s, min (t.1 + (i + 1) * s) t.2)
def ptZ (t : Int × Int) (s : Int) (i : Nat) : Int := min (t.1 + i * s) t.2
def mxN (f : Nat → Int) : Nat → Int
  | 0 => f 0
  | n + 1 => max (mxN f n) (f (n + 1))
theorem mxN_ge (f : Nat → Int) {i n : Nat} (h : i ≤ n) : f i ≤ mxN f n := by
  induction n with
  | zero => rw [Nat.le_zero.1 h]; exact Int.le_refl _
  | succ n ih =>
    unfold mxN
    by_cases e : i = n + 1
    · subst e; omega
    · have := ih (by omega); omega
theorem mxN_le (f : Nat → Int) {n : Nat} {b : Int} (h : ∀ i, i ≤ n → f i ≤ b) : mxN f n ≤ b := by
  induction n with
  | zero => exact h 0 (Nat.le_refl _)
  | succ n ih =>
    unfold mxN
    have h1 := ih (fun i hi => h i (by omega))
    have h2 := h (n + 1) (Nat.le_refl _)
    omega
def peakZ (m : Md) (t : Int × Int) (s : Int) : Int × Int :=
  (mxN (fun i => (levelZ m (ptZ t s i, ptZ t s i)).1) (nPc t s), mxN (fun i => (levelZ m (pcZ t s i)).2) (nPc t s - 1))
section
variable {t : Int × Int} {s : Int}
theorem nPc_pos : 1 ≤ nPc t s := by unfold nPc; omega
/-- a piece begins within the span -/
theorem pc_in (hs : 0 < s) (ht : t.1 ≤ t.2) {i : Nat} (hi : i < nPc t s) : (i : Int) * s ≤ t.2 - t.1 := by
  have hr := (up_rng (d := t.2 - t.1) hs).2
  rcases Nat.eq_zero_or_pos i with h | h
  · subst h; simp; omega
  · have h1 : (i : Int) ≤ upZ (t.2 - t.1) s - 1 := by unfold nPc at hi; omega
    have h2 := Int.mul_le_mul_of_nonneg_right h1 (show 0 ≤ s by omega)
    omega
theorem pc_ends (hs : 0 < s) (ht : t.1 ≤ t.2) : t.2 - t.1 ≤ (nPc t s : Int) * s := by
  have hr := (up_rng (d := t.2 - t.1) hs).1
  have h1 : upZ (t.2 - t.1) s ≤ (nPc t s : Int) := by unfold nPc; omega
  have h2 := Int.mul_le_mul_of_nonneg_right h1 (show 0 ≤ s by omega)
  omega
theorem mul_s0 (hs : 0 < s) (i : Nat) : 0 ≤ (i : Int) * s := Int.mul_nonneg (by omega) (by omega)
theorem succ_s (i : Nat) : ((i : Int) + 1) * s = (i : Int) * s + s := by rw [Int.add_mul, Int.one_mul]
theorem pc_rng (hs : 0 < s) (ht : t.1 ≤ t.2) {i : Nat} (hi : i < nPc t s) : t.1 ≤ (pcZ t s i).1 ∧ (pcZ t s i).1 ≤ (pcZ t s i).2 ∧ (pcZ t s i).2 ≤ t.2 := by
  have h1 := pc_in hs ht hi
  have h2 := mul_s0 hs i
  unfold pcZ
  simp only [succ_s]
  omega
theorem pt_rng (hs : 0 < s) (ht : t.1 ≤ t.2) (i : Nat) : t.1 ≤ ptZ t s i ∧ ptZ t s i ≤ t.2 := by
  have h2 := mul_s0 hs i
  unfold ptZ
  omega
/-- each time lies in a piece -/
theorem pc_of (hs : 0 < s) (ht : t.1 ≤ t.2) {z : Int} (h0 : t.1 ≤ z) (h1 : z ≤ t.2) : ∃ i, i < nPc t s ∧ (pcZ t s i).1 ≤ z ∧ z ≤ (pcZ t s i).2 := by
  have e1 := Int.ediv_mul_le (z - t.1) (show s ≠ 0 by omega)
  have e2 := Int.lt_ediv_add_one_mul_self (z - t.1) hs
  have e3 : 0 ≤ (z - t.1) / s := Int.ediv_nonneg (by omega) (by omega)
  obtain ⟨q, hq⟩ : ∃ q : Nat, (z - t.1) / s = q := ⟨((z - t.1) / s).toNat, by omega⟩
  rw [hq] at e1 e2
  rw [succ_s] at e2
  by_cases h : q < nPc t s
  · refine ⟨q, h, ?_, ?_⟩
    · unfold pcZ; simp only; omega
    · unfold pcZ; simp only [succ_s]; omega
  · have hn := nPc_pos (t := t) (s := s)
    have k1 := pc_ends hs ht
    have k2 : (nPc t s : Int) * s ≤ (q : Int) * s := Int.mul_le_mul_of_nonneg_right (by omega) (by omega)
    have k3 : ((nPc t s - 1 : Nat) : Int) * s + s = (nPc t s : Int) * s := by
      rw [← succ_s]
      congr 1
      omega
    have k4 := pc_in hs ht (i := nPc t s - 1) (by omega)
    refine ⟨nPc t s - 1, by omega, ?_, ?_⟩
    · unfold pcZ; simp only; omega
    · unfold pcZ; simp only [succ_s]; omega
variable {m : Md}
/-- what TideInside asks of the highest levels -/
theorem peak_hi (h : m.ps.all partOk = true) (hs : 0 < s) (ht : t.1 ≤ t.2) : (peakZ m t s).2 ≤ (levelZ m t).2 :=
  mxN_le _ fun i hi => by
    have hn := nPc_pos (t := t) (s := s)
    have r := pc_rng hs ht (i := i) (by omega)
    exact (level_mono h r.2.1 r.1 r.2.2).2
theorem peak_ge (h : m.ps.all partOk = true) (hs : 0 < s) (ht : t.1 ≤ t.2) {z : Int} (h0 : t.1 ≤ z) (h1 : z ≤ t.2) : (levelZ m (z, z)).2 ≤ (peakZ m t s).2 := by
  obtain ⟨i, hi, a, b⟩ := pc_of hs ht h0 h1
  have k := (level_mono h (t := (z, z)) (u := pcZ t s i) (Int.le_refl _) a b).2
  have := mxN_ge (fun i => (levelZ m (pcZ t s i)).2) (i := i) (n := nPc t s - 1) (by omega)
  exact Int.le_trans k this
theorem peak_ord (h : m.ps.all partOk = true) (hs : 0 < s) (ht : t.1 ≤ t.2) : (peakZ m t s).1 ≤ (peakZ m t s).2 :=
  mxN_le _ fun i _ => by
    have r := pt_rng hs ht i
    exact Int.le_trans (level_range h (t := (ptZ t s i, ptZ t s i)) (Int.le_refl _)).2.1 (peak_ge h hs ht r.1 r.2)
theorem peak_lo (h : m.ps.all partOk = true) (hs : 0 < s) (ht : t.1 ≤ t.2) : (levelZ m t).1 ≤ (peakZ m t s).1 := by
  have k := mxN_ge (fun i => (levelZ m (ptZ t s i, ptZ t s i)).1) (i := 0) (n := nPc t s) (by omega)
  have e : ptZ t s 0 = t.1 := by unfold ptZ; simp; omega
  simp only [e] at k
  exact Int.le_trans (level_mono h (t := (t.1, t.1)) (u := t) (Int.le_refl _) (Int.le_refl _) ht).1 k
/-- a part of the span is not above the highest level -/
theorem peak_part (h : m.ps.all partOk = true) (hs : 0 < s) (ht : t.1 ≤ t.2) {i j : Int} (hi : t.1 ≤ i) (hij : i ≤ j) (hj : j ≤ t.2) : (levelZ m (i, j)).1 ≤ (peakZ m t s).2 := by
  have a := (level_mono h (t := (i, i)) (u := (i, j)) (Int.le_refl _) (Int.le_refl _) hij).1
  have b := (level_range h (t := (i, i)) (Int.le_refl _)).2.1
  have c := peak_ge h hs ht hi (show i ≤ t.2 by omega)
  omega
end
end Go.Proofs.Ytfblpokjbopagaa
/-
  Layer 2: windows, as runs of low pieces. No program is named here.
-/
namespace Go.Proofs.Ytfblpokjbopagaa

/-- the runs of low ones among the first n, as first and last -/
def runs (low : Nat → Bool) : Nat → List (Nat × Nat)
  | 0 => []
  | n + 1 => if low n then (if 0 < n ∧ low (n - 1) = true then (runs low n).dropLast ++ [(((runs low n).getLastD (0, 0)).1, n)] else runs low n ++ [(n, n)]) else runs low n
structure IsRuns (low : Nat → Bool) (n : Nat) (l : List (Nat × Nat)) : Prop where
  ok : ∀ r, r ∈ l → r.1 ≤ r.2 ∧ r.2 < n ∧ (∀ k, r.1 ≤ k → k ≤ r.2 → low k = true) ∧ (r.2 + 1 < n → low (r.2 + 1) = false)
  ord : l.Pairwise (fun r s => r.2 + 1 < s.1)
  all : ∀ k, k < n → low k = true → ∃ r, r ∈ l ∧ r.1 ≤ k ∧ k ≤ r.2
  last : 0 < n → low (n - 1) = true → ∃ l' p, l = l' ++ [(p, n - 1)]
theorem runs_is (low : Nat → Bool) (n : Nat) : IsRuns low n (runs low n) := by
  induction n with
  | zero => exact ⟨fun r h => (by cases h), List.Pairwise.nil, fun k h => absurd h (by omega), fun h => absurd h (by omega)⟩
  | succ n ih =>
    unfold runs
    split
    · rename_i hl
      split
      · rename_i hb
        obtain ⟨l', p, e⟩ := ih.last hb.1 hb.2
        have hp := ih.ok (p, n - 1) (by rw [e]; simp)
        have ho := ih.ord
        rw [e, List.pairwise_append] at ho
        rw [e, List.dropLast_concat, List.getLastD_concat]
        refine ⟨?_, ?_, ?_, ?_⟩
        · intro r hr
          rcases List.mem_append.1 hr with h | h
          · have h1 := ih.ok r (by rw [e]; exact List.mem_append_left _ h)
            have h2 := ho.2.2 r h (p, n - 1) (by simp)
            simp only at h2 hp
            refine ⟨h1.1, by omega, h1.2.2.1, fun _ => h1.2.2.2 (by omega)⟩
          · obtain rfl := List.mem_singleton.1 h
            simp only at hp ⊢
            refine ⟨by omega, by omega, fun k h1 h2 => ?_, fun h => absurd h (by omega)⟩
            by_cases hk : k ≤ n - 1
            · exact hp.2.2.1 k h1 hk
            · obtain rfl : k = n := by omega
              exact hl
        · rw [List.pairwise_append]
          refine ⟨ho.1, List.pairwise_singleton _ _, fun r hr s hs => ?_⟩
          obtain rfl := List.mem_singleton.1 hs
          exact ho.2.2 r hr (p, n - 1) (by simp)
        · intro k hk hlk
          by_cases h : k = n
          · subst h
            exact ⟨(p, k), by simp, by simp only at hp ⊢; omega, by simp⟩
          · obtain ⟨r, hr, h1, h2⟩ := ih.all k (by omega) hlk
            rw [e] at hr
            rcases List.mem_append.1 hr with g | g
            · exact ⟨r, List.mem_append_left _ g, h1, h2⟩
            · obtain rfl := List.mem_singleton.1 g
              exact ⟨(p, n), by simp, h1, by simp only; omega⟩
        · intro _ _
          exact ⟨l', p, by simp⟩
      · rename_i hb
        refine ⟨?_, ?_, ?_, ?_⟩
        · intro r hr
          rcases List.mem_append.1 hr with h | h
          · have h1 := ih.ok r h
            refine ⟨h1.1, by omega, h1.2.2.1, fun h2 => ?_⟩
            exact h1.2.2.2 (by
              rcases Nat.lt_or_ge (r.2 + 1) n with h3 | h3
              · exact h3
              · exact absurd ⟨by omega, h1.2.2.1 (n - 1) (by omega) (by omega)⟩ hb)
          · obtain rfl := List.mem_singleton.1 h
            simp only
            refine ⟨by omega, by omega, fun k h1 h2 => ?_, fun h => absurd h (by omega)⟩
            obtain rfl : k = n := by omega
            exact hl
        · rw [List.pairwise_append]
          refine ⟨ih.ord, List.pairwise_singleton _ _, fun r hr s hs => ?_⟩
          obtain rfl := List.mem_singleton.1 hs
          have h1 := ih.ok r hr
          simp only
          rcases Nat.lt_or_ge (r.2 + 1) n with h3 | h3
          · exact h3
          · exact absurd ⟨by omega, h1.2.2.1 (n - 1) (by omega) (by omega)⟩ hb
        · intro k hk hlk
          by_cases h : k = n
          · subst h
            exact ⟨(k, k), by simp, by simp, by simp⟩
          · obtain ⟨r, hr, h1, h2⟩ := ih.all k (by omega) hlk
            exact ⟨r, List.mem_append_left _ hr, h1, h2⟩
        · intro _ _
          exact ⟨runs low n, n, by simp⟩
    · rename_i hl
      have hl' : low n = false := by simpa using hl
      refine ⟨?_, ih.ord, ?_, ?_⟩
      · intro r hr
        have h1 := ih.ok r hr
        refine ⟨h1.1, by omega, h1.2.2.1, fun h2 => ?_⟩
        rcases Nat.lt_or_ge (r.2 + 1) n with h3 | h3
        · exact h1.2.2.2 h3
        · obtain h4 : r.2 + 1 = n := by omega
          rw [h4]; exact hl'
      · intro k hk hlk
        by_cases h : k = n
        · subst h; rw [hl'] at hlk; cases hlk
        · exact ih.all k (by omega) hlk
      · intro _ h2
        simp only [Nat.add_sub_cancel] at h2
        rw [hl'] at h2; cases h2

def lowZ (m : Md) (t : Int × Int) (s v : Int) (i : Nat) : Bool := decide ((levelZ m (pcZ t s i)).2 ≤ v)
def winP (t : Int × Int) (s : Int) (r : Nat × Nat) : Int × Int := ((pcZ t s r.1).1, (pcZ t s r.2).2)
/-- the windows of the first n pieces -/
def winN (m : Md) (t : Int × Int) (s v : Int) (n : Nat) : List (Int × Int) := (runs (lowZ m t s v) n).map (winP t s)
def winZ (m : Md) (t : Int × Int) (s v : Int) : List (Int × Int) := winN m t s v (nPc t s)
theorem winN_no {m : Md} {t : Int × Int} {s v : Int} {n : Nat} (h : lowZ m t s v n = false) : winN m t s v (n + 1) = winN m t s v n := by
  unfold winN
  rw [runs, if_neg (by rw [h]; simp)]
theorem winN_new {m : Md} {t : Int × Int} {s v : Int} {n : Nat} (h : lowZ m t s v n = true) (h2 : n = 0 ∨ lowZ m t s v (n - 1) = false) : winN m t s v (n + 1) = winN m t s v n ++ [pcZ t s n] := by
  unfold winN
  rw [runs, if_pos h, if_neg (by rintro ⟨a, b⟩; rcases h2 with h2 | h2; omega; rw [b] at h2; cases h2)]
  simp [winP]
theorem winN_on {m : Md} {t : Int × Int} {s v : Int} {n : Nat} (h : lowZ m t s v n = true) (h1 : 0 < n) (h2 : lowZ m t s v (n - 1) = true) :
    ∃ l x, winN m t s v n = l ++ [x] ∧ winN m t s v (n + 1) = l ++ [(x.1, (pcZ t s n).2)] := by
  obtain ⟨l', p, e⟩ := (runs_is (lowZ m t s v) n).last h1 h2
  refine ⟨l'.map (winP t s), winP t s (p, n - 1), ?_, ?_⟩
  · unfold winN; rw [e]; simp
  · unfold winN
    rw [runs, if_pos h, if_pos ⟨h1, h2⟩, e, List.dropLast_concat, List.getLastD_concat]
    simp [winP]
theorem winN_len (m : Md) (t : Int × Int) (s v : Int) (n : Nat) : (winN m t s v n).length ≤ n := by
  induction n with
  | zero => simp [winN, runs]
  | succ n ih =>
    by_cases h : lowZ m t s v n = true
    · by_cases h2 : 0 < n ∧ lowZ m t s v (n - 1) = true
      · obtain ⟨l, x, e1, e2⟩ := winN_on h h2.1 h2.2
        rw [e1] at ih; rw [e2]; simp at ih ⊢; omega
      · rw [winN_new h (by by_cases h0 : n = 0; exact Or.inl h0; right; simpa [Nat.pos_of_ne_zero h0] using h2)]
        simp; omega
    · rw [winN_no (by simpa using h)]; omega

section
variable {m : Md} {t : Int × Int} {s v : Int}
theorem win_get {i : Nat} (hi : i < (winZ m t s v).length) : ∃ r, r ∈ runs (lowZ m t s v) (nPc t s) ∧ (winZ m t s v)[i] = winP t s r := by
  unfold winZ winN at hi ⊢
  rw [List.length_map] at hi
  exact ⟨_, List.getElem_mem hi, List.getElem_map ..⟩
theorem pc_le (hs : 0 < s) {p q : Nat} (h : p ≤ q) : (p : Int) * s ≤ (q : Int) * s := Int.mul_le_mul_of_nonneg_right (by omega) (by omega)
/-- each window is a span within t -/
theorem win_rng (hs : 0 < s) (ht : t.1 ≤ t.2) {i : Nat} (hi : i < (winZ m t s v).length) :
    t.1 ≤ ((winZ m t s v)[i]).1 ∧ ((winZ m t s v)[i]).1 ≤ ((winZ m t s v)[i]).2 ∧ ((winZ m t s v)[i]).2 ≤ t.2 := by
  obtain ⟨r, hr, e⟩ := win_get hi
  have h := (runs_is (lowZ m t s v) (nPc t s)).ok r hr
  have a := pc_rng hs ht (i := r.1) (by omega)
  have b := pc_rng hs ht (i := r.2) (by omega)
  have c := pc_le hs h.1
  rw [e]
  unfold winP
  simp only
  unfold pcZ at a b ⊢
  simp only at a b ⊢
  omega
theorem win_ord (hs : 0 < s) (ht : t.1 ≤ t.2) {i : Nat} (hi : i < (winZ m t s v).length) (h0 : 0 < i) :
    ((winZ m t s v)[i - 1]).2 < ((winZ m t s v)[i]).1 := by
  have h := (runs_is (lowZ m t s v) (nPc t s)).ord
  have hi2 : i < (runs (lowZ m t s v) (nPc t s)).length := by unfold winZ winN at hi; rwa [List.length_map] at hi
  have h1 := (List.pairwise_iff_getElem.1 h) (i - 1) i (by omega) hi2 (by omega)
  have e1 : (winZ m t s v)[i] = winP t s (runs (lowZ m t s v) (nPc t s))[i] := List.getElem_map ..
  have e2 : (winZ m t s v)[i - 1] = winP t s (runs (lowZ m t s v) (nPc t s))[i - 1] := List.getElem_map ..
  rw [e1, e2]
  clear e1 e2
  generalize (runs (lowZ m t s v) (nPc t s))[i - 1] = r at *
  generalize (runs (lowZ m t s v) (nPc t s))[i] = r' at *
  unfold winP pcZ
  simp only [succ_s]
  have c : ((r.2 + 2 : Nat) : Int) * s ≤ (r'.1 : Int) * s := pc_le hs (by omega)
  have e : ((r.2 + 2 : Nat) : Int) * s = (r.2 : Int) * s + s + s := by
    rw [show ((r.2 + 2 : Nat) : Int) = (r.2 : Int) + 1 + 1 by omega, Int.add_mul, Int.add_mul, Int.one_mul]
  omega
theorem win_low (hm : m.ps.all partOk = true) (hs : 0 < s) (ht : t.1 ≤ t.2) {i : Nat} (hi : i < (winZ m t s v).length) {x : Int} (h0 : ((winZ m t s v)[i]).1 ≤ x) (h1 : x ≤ ((winZ m t s v)[i]).2) :
    (levelZ m (x, x)).1 ≤ v := by
  obtain ⟨r, hr, e⟩ := win_get hi
  have h := (runs_is (lowZ m t s v) (nPc t s)).ok r hr
  rw [e] at h0 h1
  unfold winP at h0 h1
  simp only at h0 h1
  have a := pc_rng hs ht (i := r.1) (by omega)
  have b := pc_rng hs ht (i := r.2) (by omega)
  obtain ⟨k, hk, k0, k1⟩ := pc_of hs ht (z := x) (by omega) (by omega)
  obtain ⟨k', hk0, hk1, q0, q1⟩ : ∃ k', r.1 ≤ k' ∧ k' ≤ r.2 ∧ (pcZ t s k').1 ≤ x ∧ x ≤ (pcZ t s k').2 := by
    by_cases g0 : k < r.1
    · refine ⟨r.1, Nat.le_refl _, h.1, h0, ?_⟩
      have c := pc_le hs (show k + 1 ≤ r.1 by omega)
      unfold pcZ at *
      simp only [succ_s, Int.natCast_add, Int.natCast_one, Int.add_mul, Int.one_mul] at *
      omega
    · by_cases g1 : r.2 < k
      · refine ⟨r.2, h.1, Nat.le_refl _, ?_, h1⟩
        have c := pc_le hs (show r.2 + 1 ≤ k by omega)
        unfold pcZ at *
        simp only [succ_s, Int.natCast_add, Int.natCast_one, Int.add_mul, Int.one_mul] at *
        omega
      · exact ⟨k, by omega, by omega, k0, k1⟩
  have l1 := h.2.2.1 k' hk0 hk1
  unfold lowZ at l1
  have l2 := of_decide_eq_true l1
  have l3 := (level_mono hm (t := (x, x)) (u := pcZ t s k') (Int.le_refl _) q0 q1).2
  have l4 := (level_range hm (t := (x, x)) (Int.le_refl _)).2.1
  omega
theorem win_more (hs : 0 < s) (ht : t.1 ≤ t.2) {u : Int} (hu : v ≤ u) {i : Nat} (hi : i < (winZ m t s v).length) :
    ∃ j, ∃ hj : j < (winZ m t s u).length, ((winZ m t s u)[j]).1 ≤ ((winZ m t s v)[i]).1 ∧ ((winZ m t s v)[i]).2 ≤ ((winZ m t s u)[j]).2 := by
  obtain ⟨r, hr, e⟩ := win_get hi
  have h := (runs_is (lowZ m t s v) (nPc t s)).ok r hr
  have H := runs_is (lowZ m t s u) (nPc t s)
  have mono : ∀ k, lowZ m t s v k = true → lowZ m t s u k = true := fun k hk => by
    unfold lowZ at hk ⊢
    have := of_decide_eq_true hk
    exact decide_eq_true (by omega)
  obtain ⟨q, hq, q0, q1⟩ := H.all r.1 (by omega) (mono _ (h.2.2.1 r.1 (Nat.le_refl _) h.1))
  have hq2 := H.ok q hq
  have h3 : r.2 ≤ q.2 := by
    rcases Nat.lt_or_ge q.2 r.2 with g | g
    · have a := hq2.2.2.2 (by omega)
      have b := mono _ (h.2.2.1 (q.2 + 1) (by omega) (by omega))
      rw [a] at b; cases b
    · exact g
  obtain ⟨j, hj, ej⟩ := List.getElem_of_mem hq
  refine ⟨j, by unfold winZ winN; rwa [List.length_map], ?_⟩
  have e2 : (winZ m t s u)[j]'(by unfold winZ winN; rwa [List.length_map]) = winP t s q := by
    unfold winZ winN
    rw [List.getElem_map, ej]
  rw [e, e2]
  have c := pc_le hs q0
  have d := pc_le hs h3
  unfold winP pcZ
  simp only [succ_s]
  omega
/-- a piece lies within a window exactly if it is low -/
theorem win_piece (hs : 0 < s) (ht : t.1 ≤ t.2) {k : Nat} (hk : k < nPc t s) :
    (∃ i, ∃ hi : i < (winZ m t s v).length, ((winZ m t s v)[i]).1 ≤ (pcZ t s k).1 ∧ (pcZ t s k).2 ≤ ((winZ m t s v)[i]).2) ↔ lowZ m t s v k = true := by
  constructor
  · rintro ⟨i, hi, h0, h1⟩
    obtain ⟨r, hr, e⟩ := win_get hi
    have h := (runs_is (lowZ m t s v) (nPc t s)).ok r hr
    rw [e] at h0 h1
    have hin := pc_in hs ht hk
    refine h.2.2.1 k ?_ ?_
    · rcases Nat.lt_or_ge k r.1 with g | g
      · have c := pc_le hs (show k + 1 ≤ r.1 by omega)
        unfold winP pcZ at *
        simp only [succ_s, Int.natCast_add, Int.natCast_one, Int.add_mul, Int.one_mul] at *
        omega
      · exact g
    · rcases Nat.lt_or_ge r.2 k with g | g
      · have c := pc_le hs (show r.2 + 1 ≤ k by omega)
        have hk2 : (k : Int) * s < t.2 - t.1 := by
          have hr := (up_rng (d := t.2 - t.1) hs).2
          have h1 : (k : Int) ≤ upZ (t.2 - t.1) s - 1 := by unfold nPc at hk; omega
          have h2 := Int.mul_le_mul_of_nonneg_right h1 (show 0 ≤ s by omega)
          omega
        unfold winP pcZ at *
        simp only [succ_s, Int.natCast_add, Int.natCast_one, Int.add_mul, Int.one_mul] at *
        omega
      · exact g
  · intro hl
    obtain ⟨r, hr, r0, r1⟩ := (runs_is (lowZ m t s v) (nPc t s)).all k hk hl
    obtain ⟨j, hj, ej⟩ := List.getElem_of_mem hr
    refine ⟨j, by unfold winZ winN; rwa [List.length_map], ?_⟩
    have e2 : (winZ m t s v)[j]'(by unfold winZ winN; rwa [List.length_map]) = winP t s r := by
      unfold winZ winN
      rw [List.getElem_map, ej]
    rw [e2]
    have c := pc_le hs r0
    have d := pc_le hs r1
    unfold winP pcZ
    simp only [succ_s]
    omega
end
end Go.Proofs.Ytfblpokjbopagaa
