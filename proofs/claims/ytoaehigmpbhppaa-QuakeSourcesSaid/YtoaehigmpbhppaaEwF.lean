/- Symbols, part 6: the control of a body, step by step. -/
import Derived.Test.YtoaehigmpbhppaaEwE
set_option linter.unusedSimpArgs false
set_option linter.unusedVariables false
namespace Go.Ev
open Go Go.RowKit

theorem g_seq {P : Program} {c x y : Code} {Q : Exit → Act → World → Prop} {a : Act} {w : World} (h : c = .seq x y)
    (hx : x.wpIn (FF none) 0 P (fun ex a' w' => (ex = .normal ∧ y.wpIn (FF none) 0 P Q a' w') ∨ (ex ≠ .normal ∧ Q ex a' w')) a w) : c.wpIn (FF none) 0 P Q a w := by
  subst h
  refine wpIn_seq (wpIn_mono hx (fun ex a' w' h => ?_))
  rcases h with ⟨rfl, h⟩ | ⟨hne, h⟩
  · exact h
  · cases ex <;> first | exact absurd rfl hne | exact h
theorem g_block {P : Program} {id : Nat} {c x : Code} {Q : Exit → Act → World → Prop} {a : Act} {w : World} (h : c = .block id x)
    (hx : x.wpIn (FF none) 0 P (fun ex a' w' => (ex = .exit id ∧ Q .normal a' w') ∨ (ex ≠ .exit id ∧ Q ex a' w')) a w) : c.wpIn (FF none) 0 P Q a w := by
  subst h
  exact sym_block hx
theorem g_loop {P : Program} {c b : Code} {X : Type} (I : X → Act → World → Prop) (m : X → Nat) {Q : Exit → Act → World → Prop} (h : c = .loop b)
    (round : ∀ x a w, I x a w → b.wpIn (FF none) 0 P (fun ex a' w' => (ex = .normal ∧ ∃ x', m x' < m x ∧ I x' a' w') ∨ ((∃ id, ex = .exit id) ∨ ex = .ret) ∧ Q ex a' w') a w)
    (x : X) {a : Act} {w : World} (hx : I x a w) : c.wpIn (FF none) 0 P Q a w := by
  subst h
  exact loop_rounds I m round x a w hx
theorem g_cond [Rho] {P : Program} {c x y : Code} {t : Nat} {b : Bool} {Q : Exit → Act → World → Prop} {w0 : World} {fr : Fr} {s : St} {a : Act} {w : World} (h : c = .cond (.tmp t) x y) (hat : At w0 fr s a w) (ht : tget fr.T t = some (.bool b))
    (hx : (if b then x else y).wpIn (FF none) 0 P Q a w) : c.wpIn (FF none) 0 P Q a w := by
  subst h
  obtain ⟨γ, _, hf, _⟩ := hat
  exact wpIn_cond (hf.1.2.2.2 t _ ht).bool_inv hx
def thenC : Code → Code
  | .cond _ a _ => a
  | c => c
def elseC : Code → Code
  | .cond _ _ b => b
  | c => c
theorem ex_ne {i j : Nat} (h : ¬ i = j) : Exit.exit i ≠ Exit.exit j := fun q => by injection q with q; exact h q
end Go.Ev
