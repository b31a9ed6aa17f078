/-
  Sources as the laws see them, and what is said of lists of them.
-/
import Derived.Test.YtoaehigmpbhppaaEwF
import Derived.Test.YtoaehigmpbhppaaXZ
namespace Go.Proofs.Ytoaehigmpbhppaa.En
open Go Go.Ev Go.Proofs Go.RowKit
set_option linter.unusedSimpArgs false
set_option linter.unusedVariables false

abbrev KO (w : World) (k : Key) (l : List Value) (r : Value) : Prop := KeyOk Try.prog w k l r
structure Src where
  kind : Int
  cell : Int
  cls : Int
  lo : Int
  hi : Int
def srcC (x : Src) : List Value := [.int .i64 x.kind, .int .i64 x.cell, .int .i64 x.cls, .int .i64 x.lo, .int .i64 x.hi]
def srcD : Src := ⟨0, 0, 0, 0, 0⟩
def intC (x : Int) : List Value := [.int .i64 x]

def firstErr {α : Type} (f : α → Int) : List α → Int
  | [] => 0
  | x :: l => if f x = 0 then firstErr f l else f x
theorem firstErr_at {α : Type} (f : α → Int) (d : α) : ∀ (l : List α) (i : Nat), i < l.length → (∀ k, k < i → f (l.getD k d) = 0) → ¬ f (l.getD i d) = 0 → firstErr f l = f (l.getD i d)
  | [], i, h, _, _ => by simp at h
  | x :: l, 0, _, _, h => by
    have h' : ¬ f x = 0 := by simpa using h
    simp [firstErr, h']
  | x :: l, i + 1, h, hk, hi => by
    have h0 : f x = 0 := by simpa using hk 0 (by omega)
    have := firstErr_at f d l i (by simpa using h) (fun k hk2 => by simpa using hk (k + 1) (by omega)) (by simpa using hi)
    simpa [firstErr, h0] using this
theorem firstErr_all {α : Type} (f : α → Int) (d : α) : ∀ (l : List α), (∀ k, k < l.length → f (l.getD k d) = 0) → firstErr f l = 0
  | [], _ => rfl
  | x :: l, h => by
    have h0 : f x = 0 := by simpa using h 0 (by simp)
    have := firstErr_all f d l (fun k hk => by simpa using h (k + 1) (by simpa using hk))
    simpa [firstErr, h0] using this

def srcErr (x0 x1 : Int) (s : Src) : Int :=
  if ¬ (s.kind = 1 ∨ s.kind = 2 ∨ s.kind = 3) then 2
  else if ¬ (0 ≤ s.cell ∧ s.cell ≤ x0 * x1 - 1) then 4
  else if ¬ (1 ≤ s.cls ∧ s.cls ≤ 10 ∧ s.lo ≤ s.hi ∧ 0 ≤ s.lo ∧ s.hi ≤ 1000000000) then 3 else 0
def srcsErr (x0 x1 : Int) (l : List Src) : Int := if (256 : Int) < l.length then 9 else firstErr (srcErr x0 x1) l
end Go.Proofs.Ytoaehigmpbhppaa.En
