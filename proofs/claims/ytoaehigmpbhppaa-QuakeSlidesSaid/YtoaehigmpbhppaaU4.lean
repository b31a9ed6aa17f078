/-
  Travel times, and what sets off a slide, on integers and lists.
-/
import Derived.Test.YtoaehigmpbhppaaU3
namespace Go.Proofs.Ytoaehigmpbhppaa.En
open Go Go.Ev Go.Proofs Go.RowKit
set_option linter.unusedSimpArgs false
set_option linter.unusedVariables false

def ModOk (x0 x1 x2 x3 x4 x5 x6 x7 : Int) : Prop := (1 ≤ x0 ∧ x0 ≤ 24) ∧ (1 ≤ x1 ∧ x1 ≤ 24) ∧ (1 ≤ x2 ∧ x2 ≤ 10000) ∧ (100 ≤ x3 ∧ x3 ≤ x4 ∧ x4 ≤ 20000) ∧ (0 ≤ x5 ∧ x5 ≤ x6 ∧ x6 ≤ 700000) ∧ (0 ≤ x7 ∧ x7 ≤ 1000)
noncomputable def trLo (x0 x1 x2 x3 x4 x5 x6 x7 x8 x9 : Int) : Int := 1000 * dist0 x0 x1 x2 x3 x4 x5 x6 x7 x8 x9 / x4
noncomputable def trHi (x0 x1 x2 x3 x4 x5 x6 x7 x8 x9 : Int) : Int := (1000 * dist1 x0 x1 x2 x3 x4 x5 x6 x7 x8 x9 + x3 - 1) / x3
theorem div_bd {a b A : Int} (h0 : 0 ≤ a) (h1 : a ≤ A) (h2 : 100 ≤ b) (hA : 0 ≤ A) : 0 ≤ a / b ∧ a / b ≤ A := by
  refine ⟨Int.ediv_nonneg h0 (by omega), ?_⟩
  have := Int.ediv_le_self b h0
  omega
theorem tr_bd {x0 x1 x2 x3 x4 x5 x6 x7 x8 x9 : Int} (h : ModOk x0 x1 x2 x3 x4 x5 x6 x7) (h8 : 0 ≤ x8 ∧ x8 < x0 * x1) (h9 : 0 ≤ x9 ∧ x9 < x0 * x1) :
    (0 ≤ trLo x0 x1 x2 x3 x4 x5 x6 x7 x8 x9 ∧ trLo x0 x1 x2 x3 x4 x5 x6 x7 x8 x9 ≤ 1048575000) ∧ (0 ≤ trHi x0 x1 x2 x3 x4 x5 x6 x7 x8 x9 ∧ trHi x0 x1 x2 x3 x4 x5 x6 x7 x8 x9 ≤ 1048620000) := by
  obtain ⟨v0, v1, v2, v3, v5, v7⟩ := h
  have b := dist_bd v0 v1 v2 v3 v5 v7 h8 h9
  unfold trLo trHi
  have q1 := div_bd (a := 1000 * dist0 x0 x1 x2 x3 x4 x5 x6 x7 x8 x9) (b := x4) (A := 1048575000) (by omega) (by omega) (by omega) (by omega)
  have q2 := div_bd (a := 1000 * dist1 x0 x1 x2 x3 x4 x5 x6 x7 x8 x9 + x3 - 1) (b := x3) (A := 1048620000) (by omega) (by omega) (by omega) (by omega)
  exact ⟨q1, q2⟩
theorem srcErr_ok {x0 x1 : Int} {s : Src} (h : srcErr x0 x1 s = 0) : (s.kind = 1 ∨ s.kind = 2 ∨ s.kind = 3) ∧ (0 ≤ s.cell ∧ s.cell ≤ x0 * x1 - 1) ∧ (1 ≤ s.cls ∧ s.cls ≤ 10) ∧ s.lo ≤ s.hi ∧ 0 ≤ s.lo ∧ s.hi ≤ 1000000000 := by
  unfold srcErr at h
  repeat' split at h
  all_goals first | omega | (exfalso; omega) | skip
theorem firstErr_zero {α : Type} {f : α → Int} (d : α) : ∀ {l : List α}, firstErr f l = 0 → ∀ k, k < l.length → f (l.getD k d) = 0
  | [], _, k, hk => by simp at hk
  | x :: l, h, k, hk => by
    unfold firstErr at h
    by_cases h0 : f x = 0
    · rw [if_pos h0] at h
      cases k with
      | zero => simpa using h0
      | succ k => simpa using firstErr_zero d h k (by simpa using hk)
    · rw [if_neg h0] at h
      exact absurd h h0

noncomputable def offStep (x0 x1 x2 x3 x4 x5 x6 x7 cell lag : Int) (t : Int × Int) (s : Src) : Int × Int :=
  if s.kind = 1 then (min t.1 (s.lo + trLo x0 x1 x2 x3 x4 x5 x6 x7 s.cell cell), max t.2 (s.hi + trHi x0 x1 x2 x3 x4 x5 x6 x7 s.cell cell + lag)) else t
noncomputable def offZ (x0 x1 x2 x3 x4 x5 x6 x7 cell lag : Int) (l : List Src) : Int × Int := l.foldl (offStep x0 x1 x2 x3 x4 x5 x6 x7 cell lag) (1099511627776, 0)
theorem take_getD {α : Type} (d : α) {l : List α} {i : Nat} (h : i < l.length) : l.take (i + 1) = l.take i ++ [l.getD i d] := by
  rw [List.take_add_one]
  simp [List.getD, h]
theorem offZ_snoc {x0 x1 x2 x3 x4 x5 x6 x7 cell lag : Int} {l : List Src} {i : Nat} (h : i < l.length) :
    offZ x0 x1 x2 x3 x4 x5 x6 x7 cell lag (l.take (i + 1)) = offStep x0 x1 x2 x3 x4 x5 x6 x7 cell lag (offZ x0 x1 x2 x3 x4 x5 x6 x7 cell lag (l.take i)) (l.getD i srcD) := by
  unfold offZ
  rw [take_getD srcD h, List.foldl_append]
  rfl
end Go.Proofs.Ytoaehigmpbhppaa.En
