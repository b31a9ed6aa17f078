/-
  What is left of slides, on lists.
-/
import Derived.Test.YtoaehigmpbhppaaU5
namespace Go.Proofs.Ytoaehigmpbhppaa.En
open Go Go.Ev Go.Proofs Go.RowKit
set_option linter.unusedSimpArgs false
set_option linter.unusedVariables false

noncomputable def csErr (x0 x1 x2 x3 x4 x5 x6 x7 : Int) (l : List Src) : Int := if ¬ qcheck0 x0 x1 x2 x3 x4 x5 x6 x7 = 0 then qcheck0 x0 x1 x2 x3 x4 x5 x6 x7 else srcsErr x0 x1 l
theorem csErr_ok {x0 x1 x2 x3 x4 x5 x6 x7 : Int} {l : List Src} (h : csErr x0 x1 x2 x3 x4 x5 x6 x7 l = 0) : ModOk x0 x1 x2 x3 x4 x5 x6 x7 ∧ l.length ≤ 256 ∧ ∀ k, k < l.length → srcErr x0 x1 (l.getD k srcD) = 0 := by
  unfold csErr at h
  by_cases h0 : qcheck0 x0 x1 x2 x3 x4 x5 x6 x7 = 0
  · rw [if_neg (by omega)] at h
    unfold srcsErr at h
    by_cases h1 : (256 : Int) < l.length
    · rw [if_pos h1] at h; omega
    · rw [if_neg h1] at h
      exact ⟨qcheck_ok h0, by omega, firstErr_zero srcD h⟩
  · rw [if_pos h0] at h; exact absurd h h0
noncomputable def slErr (x0 x1 x2 x3 x4 x5 x6 x7 : Int) (l : List Src) (lag : Int) : Int :=
  if ¬ csErr x0 x1 x2 x3 x4 x5 x6 x7 l = 0 then csErr x0 x1 x2 x3 x4 x5 x6 x7 l else if ¬ (0 ≤ lag ∧ lag ≤ 100000000) then 3 else 0
noncomputable def slideOne (x0 x1 x2 x3 x4 x5 x6 x7 : Int) (l : List Src) (lag : Int) (s : Src) : Src :=
  if s.kind = 2 then ⟨s.kind, s.cell, s.cls, max s.lo (offZ x0 x1 x2 x3 x4 x5 x6 x7 s.cell lag l).1, min s.hi (offZ x0 x1 x2 x3 x4 x5 x6 x7 s.cell lag l).2⟩ else s
noncomputable def slideF (x0 x1 x2 x3 x4 x5 x6 x7 : Int) (l : List Src) (lag : Int) (s : Src) : Option Src :=
  if (slideOne x0 x1 x2 x3 x4 x5 x6 x7 l lag s).lo ≤ (slideOne x0 x1 x2 x3 x4 x5 x6 x7 l lag s).hi then some (slideOne x0 x1 x2 x3 x4 x5 x6 x7 l lag s) else none
noncomputable def slidesL (x0 x1 x2 x3 x4 x5 x6 x7 : Int) (l : List Src) (lag : Int) : List Src :=
  if slErr x0 x1 x2 x3 x4 x5 x6 x7 l lag = 0 then l.filterMap (slideF x0 x1 x2 x3 x4 x5 x6 x7 l lag) else []
theorem filterMap_snoc {α β : Type} (f : α → Option β) (d : α) {l : List α} {i : Nat} (h : i < l.length) : (l.take (i + 1)).filterMap f = (l.take i).filterMap f ++ (f (l.getD i d)).toList := by
  rw [take_getD d h, List.filterMap_append]
  congr 1
theorem filterMap_some {α β : Type} (f : α → Option β) (d : α) {l : List α} {i : Nat} {y : β} (h : i < l.length) (hf : f (l.getD i d) = some y) : (l.take (i + 1)).filterMap f = (l.take i).filterMap f ++ [y] := by rw [filterMap_snoc f d h, hf]; rfl
theorem filterMap_none {α β : Type} (f : α → Option β) (d : α) {l : List α} {i : Nat} (h : i < l.length) (hf : f (l.getD i d) = none) : (l.take (i + 1)).filterMap f = (l.take i).filterMap f := by rw [filterMap_snoc f d h, hf]; simp
end Go.Proofs.Ytoaehigmpbhppaa.En
