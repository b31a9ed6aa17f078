/-
  Numbers that ascend; the sources of cells and classes.
-/
import Derived.Test.YtoaehigmpbhppaaW1
namespace Go.Proofs.Ytoaehigmpbhppaa.En
open Go Go.Ev Go.Proofs Go.RowKit
set_option linter.unusedSimpArgs false
set_option linter.unusedVariables false

def ascAt (m : Int) (c : List Int) (i : Nat) : Int :=
  if ¬ (0 ≤ c.getD i 0 ∧ c.getD i 0 ≤ m - 1) then 4 else if 0 < i ∧ c.getD i 0 ≤ c.getD (i - 1) 0 then 2 else 0
def ascErr (m : Int) (c : List Int) : Int := firstErr (ascAt m c) (List.range c.length)
theorem asc_at {m : Int} {c : List Int} {i : Nat} (h : i < c.length) (hk : ∀ k, k < i → ascAt m c k = 0) (hi : ¬ ascAt m c i = 0) : ascErr m c = ascAt m c i := by
  unfold ascErr
  have e : ∀ k, k < c.length → (List.range c.length).getD k 0 = k := fun k hk => by simp [List.getD, hk]
  rw [firstErr_at (ascAt m c) 0 (List.range c.length) i (by simpa using h) (fun k hk2 => by rw [e k (by omega)]; exact hk k hk2) (by rw [e i h]; exact hi), e i h]
theorem asc_all {m : Int} {c : List Int} (hk : ∀ k, k < c.length → ascAt m c k = 0) : ascErr m c = 0 := by
  unfold ascErr
  refine firstErr_all (ascAt m c) 0 _ (fun k h => ?_)
  have h' : k < c.length := by simpa using h
  have e : (List.range c.length).getD k 0 = k := by simp [List.getD, h']
  rw [e]; exact hk k h'

def classL (cell c0 t0 t1 : Int) (k : Nat) : List Src := (List.range k).map fun (j : Nat) => (⟨1, cell, c0 + (j : Int), t0, t1⟩ : Src)
theorem classL_succ {cell c0 t0 t1 : Int} {k : Nat} : classL cell c0 t0 t1 (k + 1) = classL cell c0 t0 t1 k ++ [⟨1, cell, c0 + (k : Int), t0, t1⟩] := by
  unfold classL
  rw [List.range_succ, List.map_append]
  rfl
def allL (c0 c1 t0 t1 : Int) (l : List Int) : List Src := l.flatMap fun cell => classL cell c0 t0 t1 (c1 - c0 + 1).toNat
theorem allL_succ {c0 c1 t0 t1 : Int} {l : List Int} {i : Nat} (h : i < l.length) : allL c0 c1 t0 t1 (l.take (i + 1)) = allL c0 c1 t0 t1 (l.take i) ++ classL (l.getD i 0) c0 t0 t1 (c1 - c0 + 1).toNat := by
  unfold allL
  rw [take_getD 0 h, List.flatMap_append]
  simp
noncomputable def sourcesE (x0 x1 x2 x3 x4 x5 x6 x7 : Int) (l : List Int) (c0 c1 t0 t1 : Int) : Int :=
  if ¬ qcheck0 x0 x1 x2 x3 x4 x5 x6 x7 = 0 then qcheck0 x0 x1 x2 x3 x4 x5 x6 x7 else if ¬ ascErr (x0 * x1) l = 0 then ascErr (x0 * x1) l
  else if ¬ ((c0 ≤ c1 ∧ 1 ≤ c0 ∧ c1 ≤ 10) ∧ (t0 ≤ t1 ∧ 0 ≤ t0 ∧ t1 ≤ 1000000000)) then 3 else if 256 < (l.length : Int) * (c1 - c0 + 1) then 9 else 0
noncomputable def sourcesL (x0 x1 x2 x3 x4 x5 x6 x7 : Int) (l : List Int) (c0 c1 t0 t1 : Int) : List Src :=
  if sourcesE x0 x1 x2 x3 x4 x5 x6 x7 l c0 c1 t0 t1 = 0 then allL c0 c1 t0 t1 l else []
end Go.Proofs.Ytoaehigmpbhppaa.En
