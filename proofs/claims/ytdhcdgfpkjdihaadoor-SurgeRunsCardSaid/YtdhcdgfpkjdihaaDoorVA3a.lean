/-
  Layer 3: models, winds, storms, fetches, rises, levels, as functions on integers. No program is named here.
-/
import Derived.Test.YtdhcdgfpkjdihaaDoorVLib
set_option linter.unusedSimpArgs false
set_option linter.unusedVariables false
namespace Go.Proofs.YtdhcdgfpkjdihaaDoor.Sg
open Go.RowKit
structure Mo where
 d : Int × Int
 l : Int × Int
deriving DecidableEq
structure Wi where
 s : Int × Int
 n : Int
 p : Int × Int
deriving DecidableEq
structure So where
 x : Int × Int
 y : Int × Int
 r : Int
 m : Int × Int
 p : Int × Int
deriving DecidableEq
def spOk (a b : Int) (s : Int × Int) : Bool := decide (s.1 ≤ s.2 ∧ a ≤ s.1 ∧ s.2 ≤ b)
theorem spOk_iff {a b : Int} {s : Int × Int} : spOk a b s = true ↔ s.1 ≤ s.2 ∧ a ≤ s.1 ∧ s.2 ≤ b := by unfold spOk; exact decide_eq_true_iff
def moE (m : Mo) : Int := if spOk 1 10000 m.d = true ∧ spOk 1 1024 m.l = true then 0 else 3
def wiE (w : Wi) : Int := if spOk 0 10000 w.s = true ∧ spOk (-20000) 20000 w.p = true ∧ 1 ≤ w.n ∧ w.n ≤ 255 then 0 else 3
def soE (s : So) : Int := if (spOk (-1000000) 1000000 s.x = true ∧ spOk (-1000000) 1000000 s.y = true ∧ 1 ≤ s.r ∧ s.r ≤ 1000000) ∧ spOk 0 10000 s.m = true ∧ spOk 0 20000 s.p = true then 0 else 3
def andE (a b : Int) : Int := if a = 0 then b else a
theorem andE_zero {a b : Int} : andE a b = 0 ↔ a = 0 ∧ b = 0 := by
 unfold andE
 split
 · simp [*]
 · simp [*]
theorem moE_zero {m : Mo} (h : moE m = 0) : spOk 1 10000 m.d = true ∧ spOk 1 1024 m.l = true := by
 unfold moE at h
 split at h
 · assumption
 · cases h
theorem wiE_zero {w : Wi} (h : wiE w = 0) : spOk 0 10000 w.s = true ∧ spOk (-20000) 20000 w.p = true ∧ 1 ≤ w.n ∧ w.n ≤ 255 := by
 unfold wiE at h
 split at h
 · assumption
 · cases h
/-! The cells that follow one another. -/
def dxZ (d : Nat) : Int := if d = 0 ∨ d = 1 ∨ d = 7 then 1 else if d = 3 ∨ d = 4 ∨ d = 5 then -1 else 0
def dyZ (d : Nat) : Int := if d = 1 ∨ d = 2 ∨ d = 3 then 1 else if d = 5 ∨ d = 6 ∨ d = 7 then -1 else 0
/-- how often one can go on from x by a, from 0 to n - 1 -/
def roomZ (a x n : Int) : Nat := if a = 1 then (n - 1 - x).toNat else if a = -1 then x.toNat else 100
def lenZ (W H c : Int) (d : Nat) : Nat := min (roomZ (dxZ d) (c % W) W) (roomZ (dyZ d) (c / W) H)
def colZ (W c : Int) (d : Nat) (k : Nat) : Int := c % W + dxZ d * (k + 1 : Nat)
def rowZ (W c : Int) (d : Nat) (k : Nat) : Int := c / W + dyZ d * (k + 1 : Nat)
def lineZ (W H c : Int) (d : Nat) : List Int := (List.range (lenZ W H c d)).map fun k => rowZ W c d k * W + colZ W c d k
theorem dir_cases {d : Nat} (h : d < 8) : d = 0 ∨ d = 1 ∨ d = 2 ∨ d = 3 ∨ d = 4 ∨ d = 5 ∨ d = 6 ∨ d = 7 := by omega
/-- within the grid just as long as there is room -/
theorem line_in {W H c : Int} {d : Nat} (hd : d < 8) (hW : 1 ≤ W ∧ W ≤ 24) (hH : 1 ≤ H ∧ H ≤ 24) (hc : 0 ≤ c ∧ c < W * H) (k : Nat) (hk : k ≤ lenZ W H c d) :
 (k < lenZ W H c d ↔ (0 ≤ colZ W c d k ∧ colZ W c d k ≤ W - 1) ∧ (0 ≤ rowZ W c d k ∧ rowZ W c d k ≤ H - 1)) := by
 have m1 : 0 ≤ c % W := Int.emod_nonneg _ (by omega)
 have m2 : c % W < W := Int.emod_lt_of_pos _ (by omega)
 have d1 : 0 ≤ c / W := Int.ediv_nonneg hc.1 (by omega)
 have d2 : c / W < H := Int.ediv_lt_of_lt_mul (by omega) (by rw [Int.mul_comm]; exact hc.2)
 unfold lenZ colZ rowZ at *
 generalize c % W = x at *
 generalize c / W = y at *
 rcases dir_cases hd with rfl | rfl | rfl | rfl | rfl | rfl | rfl | rfl <;> simp [dxZ, dyZ, roomZ] at hk ⊢ <;> omega
theorem len_lt {W H c : Int} {d : Nat} (hd : d < 8) (hW : 1 ≤ W ∧ W ≤ 24) (hH : 1 ≤ H ∧ H ≤ 24) (hc : 0 ≤ c ∧ c < W * H) : lenZ W H c d ≤ 23 := by
 have m1 : 0 ≤ c % W := Int.emod_nonneg _ (by omega)
 have m2 : c % W < W := Int.emod_lt_of_pos _ (by omega)
 have d1 : 0 ≤ c / W := Int.ediv_nonneg hc.1 (by omega)
 have d2 : c / W < H := Int.ediv_lt_of_lt_mul (by omega) (by rw [Int.mul_comm]; exact hc.2)
 unfold lenZ
 generalize c % W = x at *
 generalize c / W = y at *
 rcases dir_cases hd with rfl | rfl | rfl | rfl | rfl | rfl | rfl | rfl <;> simp [dxZ, dyZ, roomZ] <;> omega
/-- its cells exist -/
theorem line_cell {W H c : Int} {d : Nat} (hd : d < 8) (hW : 1 ≤ W ∧ W ≤ 24) (hH : 1 ≤ H ∧ H ≤ 24) (hc : 0 ≤ c ∧ c < W * H) {k : Nat} (hk : k < lenZ W H c d) :
 0 ≤ rowZ W c d k * W + colZ W c d k ∧ rowZ W c d k * W + colZ W c d k < W * H := by
 obtain ⟨⟨h1, h2⟩, h3, h4⟩ := (line_in hd hW hH hc k (by omega)).1 hk
 have e1 : 0 * W ≤ rowZ W c d k * W := Int.mul_le_mul_of_nonneg_right h3 (by omega)
 have e2 : rowZ W c d k * W ≤ (H - 1) * W := Int.mul_le_mul_of_nonneg_right h4 (by omega)
 rw [Int.sub_mul, Int.one_mul, Int.mul_comm H W] at e2
 omega
theorem lineZ_length (W H c : Int) (d : Nat) : (lineZ W H c d).length = lenZ W H c d := by simp [lineZ]
theorem lineZ_get (W H c : Int) (d k : Nat) (h : k < (lineZ W H c d).length) : (lineZ W H c d)[k] = rowZ W c d k * W + colZ W c d k := by simp [lineZ]
theorem lineZ_mem {W H c : Int} {d : Nat} (hd : d < 8) (hW : 1 ≤ W ∧ W ≤ 24) (hH : 1 ≤ H ∧ H ≤ 24) (hc : 0 ≤ c ∧ c < W * H) {x : Int} (hx : x ∈ lineZ W H c d) : 0 ≤ x ∧ x < W * H := by
 unfold lineZ at hx
 obtain ⟨k, hk, rfl⟩ := List.mem_map.1 hx
 exact line_cell hd hW hH hc (List.mem_range.1 hk)
/-! Depths, fetches. -/
def grZ (g : G) (c : Int) : Int × Int := g.ss.getD c.toNat (0, 0)
def dpZ (g : G) (sea : Int × Int) (c : Int) : Int × Int := (sea.1 - (grZ g c).2, sea.2 - (grZ g c).1)
def sureB (g : G) (sea : Int × Int) (c : Int) : Bool := decide (1 ≤ (dpZ g sea c).1)
def mayB (g : G) (sea : Int × Int) (c : Int) : Bool := decide (1 ≤ (dpZ g sea c).2)
def fetchZ (isSea : Int → Bool) (g : G) (c : Int) (d : Nat) : List Int := (lineZ g.W g.H c d).takeWhile isSea
def sureZ (g : G) (sea : Int × Int) (c : Int) (d : Nat) : List Int := fetchZ (sureB g sea) g c d
def mayZ (g : G) (sea : Int × Int) (c : Int) (d : Nat) : List Int := fetchZ (mayB g sea) g c d
theorem takeWhile_len {α : Type} (p : α → Bool) (l : List α) : (l.takeWhile p).length ≤ l.length := (List.takeWhile_prefix p).length_le
theorem fetch_len (p : Int → Bool) (g : G) (c : Int) (d : Nat) : (fetchZ p g c d).length ≤ lenZ g.W g.H c d := by
 rw [← lineZ_length]
 exact takeWhile_len _ _
/-- the first part of a list, as far as all are so -/
theorem takeWhile_is {α : Type} (p : α → Bool) (l : List α) (k : Nat) (hk : k ≤ l.length) (h : ∀ j (hj : j < k), p (l[j]'(by omega)) = true) (he : k = l.length ∨ ∃ h : k < l.length, p l[k] = false) : l.takeWhile p = l.take k := by
 induction l generalizing k with
 | nil => simp
 | cons a l ih =>
  cases k with
  | zero =>
   rcases he with h0 | ⟨_, h0⟩
   · simp at h0
   · simp at h0
     simp [h0]
  | succ k =>
   have h0 := h 0 (by omega)
   simp only [List.getElem_cons_zero] at h0
   rw [List.takeWhile_cons, h0, if_pos rfl, List.take_succ_cons, ih k (by simpa using hk) (fun j hj => by have := h (j + 1) (by omega); simpa using this)]
   rcases he with h1 | ⟨h1, h2⟩
   · left; simpa using h1
   · right
     refine ⟨by simpa using h1, ?_⟩
     simpa using h2
theorem mem_tw {α : Type} {p : α → Bool} {l : List α} {x : α} (h : x ∈ l.takeWhile p) : p x = true := by
 induction l with
 | nil => simp at h
 | cons a l ih =>
  rw [List.takeWhile_cons] at h
  split at h
  · rcases List.mem_cons.1 h with rfl | h
    · assumption
    · exact ih h
  · cases h
theorem takeWhile_get {α : Type} (p : α → Bool) (l : List α) (k : Nat) (hk : k < (l.takeWhile p).length) : ∃ h : k < l.length, (l.takeWhile p)[k] = l[k] ∧ p l[k] = true := by
 have hl := takeWhile_len p l
 have e := List.IsPrefix.getElem (List.takeWhile_prefix p (l := l)) hk
 refine ⟨by omega, e, ?_⟩
 rw [← e]
 exact mem_tw (List.getElem_mem hk)
theorem takeWhile_take {α : Type} (p : α → Bool) (l : List α) : l.takeWhile p = l.take (l.takeWhile p).length := List.prefix_iff_eq_take.1 (List.takeWhile_prefix p)
/-! Rises, setups, levels. -/
def upQ (a b : Int) : Int := -(-a / b)
def nLo (d : Nat) : Int := if d % 2 = 0 then 100 else 141
def nHi (d : Nat) : Int := if d % 2 = 0 then 100 else 142
def partLo (g : G) (sea : Int × Int) (m : Mo) (d : Nat) (s : Int × Int) (c : Int) : Int := m.d.1 * s.1 * s.1 * nLo d * g.S / (3832031250 * (dpZ g sea c).2)
def partHi (g : G) (sea : Int × Int) (m : Mo) (d : Nat) (s : Int × Int) (c : Int) : Int := upQ (m.d.2 * s.2 * s.2 * nHi d * g.S) (3832031250 * max (dpZ g sea c).1 1)
def sumZ (f : Int → Int) (l : List Int) : Int := l.foldl (fun r c => r + f c) 0
def riseZ (g : G) (sea : Int × Int) (m : Mo) (c : Int) (d : Nat) (s : Int × Int) : Int × Int :=
 (sumZ (partLo g sea m d s) (sureZ g sea c d), sumZ (partHi g sea m d s) (mayZ g sea c d))
def oppZ (d : Nat) : Nat := (d + 4) % 8
def setupZ (g : G) (sea : Int × Int) (m : Mo) (c : Int) (d : Nat) (s : Int × Int) : Int × Int :=
 ((riseZ g sea m c (oppZ d) s).1 - (riseZ g sea m c d s).2, (riseZ g sea m c (oppZ d) s).2 - (riseZ g sea m c d s).1)
def bitB (n : Int) (d : Nat) : Bool := decide (n / 2 ^ d % 2 = 1)
def dirsZ (n : Int) : List Nat := (List.range 8).filter (bitB n)
def hullZ : List (Int × Int) → Int × Int
 | [] => (0, 0)
 | a :: l => l.foldl (fun r s => (min r.1 s.1, max r.2 s.2)) a
def presZ (p : Int × Int) : Int × Int := (2560 * p.1 / 981, upQ (2560 * p.2) 981)
def steadyZ (g : G) (sea : Int × Int) (m : Mo) (c : Int) (w : Wi) : Int × Int :=
 ((hullZ ((dirsZ w.n).map fun d => setupZ g sea m c d w.s)).1 + (presZ w.p).1, (hullZ ((dirsZ w.n).map fun d => setupZ g sea m c d w.s)).2 + (presZ w.p).2)
def stepZ (lag z s : Int × Int) : Int × Int :=
 (z.1 + (if s.1 < z.1 then lag.2 else lag.1) * (s.1 - z.1) / 1024, z.2 + upQ ((if s.2 < z.2 then lag.1 else lag.2) * (s.2 - z.2)) 1024)
/-- the levels behind each of some steady levels -/
def levelsZ (lag : Int × Int) : Int × Int → List (Int × Int) → List (Int × Int)
 | _, [] => []
 | z, s :: l => stepZ lag z s :: levelsZ lag (stepZ lag z s) l
def lastZ (lag z : Int × Int) (l : List (Int × Int)) : Int × Int := l.foldl (stepZ lag) z
theorem levelsZ_length (lag z : Int × Int) (l : List (Int × Int)) : (levelsZ lag z l).length = l.length := by
 induction l generalizing z with
 | nil => rfl
 | cons s l ih => simp [levelsZ, ih]
theorem levelsZ_snoc (lag z : Int × Int) (l : List (Int × Int)) (s : Int × Int) : levelsZ lag z (l ++ [s]) = levelsZ lag z l ++ [stepZ lag (lastZ lag z l) s] := by
 induction l generalizing z with
 | nil => rfl
 | cons a l ih => simp [levelsZ, ih, lastZ]
theorem lastZ_snoc (lag z : Int × Int) (l : List (Int × Int)) (s : Int × Int) : lastZ lag z (l ++ [s]) = stepZ lag (lastZ lag z l) s := by simp [lastZ]
def steadiesZ (g : G) (sea : Int × Int) (m : Mo) (c : Int) (l : List Wi) : List (Int × Int) := l.map (steadyZ g sea m c)
def runZ (g : G) (sea : Int × Int) (m : Mo) (c : Int) (z : Int × Int) (l : List Wi) : List (Int × Int) := levelsZ m.l z (steadiesZ g sea m c l)
def cmZ (z : Int × Int) : Int × Int := (z.1 / 256, upQ z.2 256)
/-! Quotients. -/
theorem up_rng {a b : Int} (hb : 0 < b) : upQ a b * b - b < a ∧ a ≤ upQ a b * b := by
 unfold upQ
 have h1 := Int.emod_nonneg (-a) (show b ≠ 0 by omega)
 have h2 := Int.emod_lt_of_pos (-a) hb
 have h3 := Int.mul_ediv_add_emod (-a) b
 rw [Int.mul_comm] at h3
 rw [Int.neg_mul]
 omega
theorem up_of {a b q : Int} (hb : 0 < b) (h1 : q * b - b < a) (h2 : a ≤ q * b) : upQ a b = q := by
 have h := up_rng (a := a) hb
 have g1 : ¬ upQ a b < q := fun hh => by
  have := Int.mul_le_mul_of_nonneg_right (show upQ a b ≤ q - 1 by omega) (show 0 ≤ b by omega)
  rw [Int.sub_mul] at this
  omega
 have g2 : ¬ q < upQ a b := fun hh => by
  have := Int.mul_le_mul_of_nonneg_right (show q ≤ upQ a b - 1 by omega) (show 0 ≤ b by omega)
  rw [Int.sub_mul] at this
  omega
 omega
theorem dn_rng {a b : Int} (hb : 0 < b) : a / b * b ≤ a ∧ a < a / b * b + b := by
 have h1 := Int.emod_nonneg a (show b ≠ 0 by omega)
 have h2 := Int.emod_lt_of_pos a hb
 have h3 := Int.mul_ediv_add_emod a b
 rw [Int.mul_comm] at h3
 omega
theorem dn_of {a b q : Int} (hb : 0 < b) (h1 : q * b ≤ a) (h2 : a < q * b + b) : a / b = q := by
 have h := dn_rng (a := a) hb
 have g1 : ¬ a / b < q := fun hh => by
  have := Int.mul_le_mul_of_nonneg_right (show a / b ≤ q - 1 by omega) (show 0 ≤ b by omega)
  rw [Int.sub_mul] at this
  omega
 have g2 : ¬ q < a / b := fun hh => by
  have := Int.mul_le_mul_of_nonneg_right (show q ≤ a / b - 1 by omega) (show 0 ≤ b by omega)
  rw [Int.sub_mul] at this
  omega
 omega
/-- Go's quotient and remainder, by a positive divisor -/
theorem go_quo {a b : Int} (hb : 0 < b) : (a.tmod b < 0 → a / b = a.tdiv b - 1) ∧ (¬ a.tmod b < 0 → a / b = a.tdiv b) ∧ (0 < a.tmod b → upQ a b = a.tdiv b + 1) ∧ (¬ 0 < a.tmod b → upQ a b = a.tdiv b) := by
 have e := Int.mul_tdiv_add_tmod a b
 have l1 := Int.tmod_lt_of_pos a hb
 have l2 := Int.lt_tmod_of_pos a hb
 rw [Int.mul_comm] at e
 refine ⟨fun h => dn_of hb ?_ ?_, fun h => dn_of hb ?_ ?_, fun h => up_of hb ?_ ?_, fun h => up_of hb ?_ ?_⟩
 all_goals first | (rw [Int.sub_mul]; omega) | (rw [Int.add_mul]; omega) | omega
/-- a quotient is not greater than what is divided -/
theorem quo_abs {a b M : Int} (h : -M ≤ a ∧ a ≤ M) : -M ≤ a.tdiv b ∧ a.tdiv b ≤ M := by
 have h1 : (a.tdiv b).natAbs ≤ a.natAbs := by
  rw [Int.natAbs_tdiv]
  exact Nat.div_le_self _ _
 omega
end Go.Proofs.YtdhcdgfpkjdihaaDoor.Sg
