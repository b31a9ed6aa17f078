/- Symbols, part 4: the first statements of a body. -/
import Derived.Test.YtoaehigmpbhppaaEwC
set_option linter.unusedSimpArgs false
set_option linter.unusedVariables false
namespace Go.Ev
open Go Go.RowKit

def segA {β : Type} (P : Program) (e : Env) (n : Nat) : List Code → Fr → St → (Fr → St → Option β) → Option β
  | [], fr, s, k => k fr s
  | a :: as, fr, s, k => ev P e n (.code a none fr s fun ex fr' s' => match ex with
    | .normal => segA P e n as fr' s' k
    | _ => none)

theorem At.segsL {ρ1 ρ2 : Rho} {P : Program} {e : Env} (he : @Env.Ok ρ1 P e) {w0 : World} {n : Nat} {b : Code} {fr2 : Fr} {s2 : St} {σ : List Value} {π : List Nat} {τ : List (Option Nat)}
    (hσ : SubOk ρ1 ρ2 0 σ) (hτ : LsubOk ρ1 ρ2 0 τ) (hm : ∀ B o, ρ2.mem B = some o → ρ1.mem B = some o) (hw2 : s2.Wf) {Q : Exit → Act → World → Prop} (hQ : ∀ a' w', @At ρ2 w0 fr2 s2 a' w' → b.wpIn (FF none) 0 P Q a' w') :
    ∀ (as : List Code) (fr : Fr) (s : St) (a : Act) (w : World), segA P e n as fr s (fun fr' s' => stopL .normal σ π τ fr2 s2 .normal fr' s') = some () → s.Wf → @At ρ1 w0 fr s a w → (seqs as b).wpIn (FF none) 0 P Q a w
  | [], fr, s, a, w, h, _, hat => by
    simp only [segA, stopL, sameEx, cond_true] at h
    cases h2 : agreeL σ π τ fr2 s2 fr s with
    | false => rw [h2] at h; cases h
    | true => exact hQ a w (At.shiftL hσ hτ hm hw2 h2 hat)
  | x :: as, fr, s, a, w, h, hw, hat => by
    simp only [segA] at h
    obtain ⟨ex, fr1, s1, hk, hw1, hgo⟩ := @At.run ρ1 Unit P e he w0 n x fr s _ () h hw
    cases ex with
    | normal => exact wpIn_seq (hgo a w hat _ (fun a' w' hat' => At.segsL he hσ hτ hm hw2 hQ as fr1 s1 a' w' hk hw1 hat'))
    | exit id => cases hk
    | ret => cases hk

theorem At.segs {ρ1 ρ2 : Rho} {P : Program} {e : Env} (he : @Env.Ok ρ1 P e) {w0 : World} {n : Nat} {b : Code} {fr2 : Fr} {s2 : St} {σ : List Value} {π : List Nat}
    (hσ : SubOk ρ1 ρ2 0 σ) (hm : ∀ B o, ρ2.mem B = some o → ρ1.mem B = some o) (hw2 : s2.Wf) {Q : Exit → Act → World → Prop} (hQ : ∀ a' w', @At ρ2 w0 fr2 s2 a' w' → b.wpIn (FF none) 0 P Q a' w') :
    ∀ (as : List Code) (fr : Fr) (s : St) (a : Act) (w : World), segA P e n as fr s (fun fr' s' => stop .normal σ π fr2 s2 .normal fr' s') = some () → s.Wf → @At ρ1 w0 fr s a w → (seqs as b).wpIn (FF none) 0 P Q a w := fun as fr s a w h hw hat => At.segsL (τ := []) he hσ trivial hm hw2 hQ as fr s a w h hw hat

theorem sym_fin {P : Program} {x y : Code} {Q : Exit → Act → World → Prop} {a : Act} {w : World} {I : Act → World → Prop} (h1 : x.wpIn (FF none) 0 P (fun ex a' w' => (ex = .normal ∧ I a' w') ∨ (ex = .ret ∧ Q .ret a' w')) a w)
    (h2 : ∀ a' w', I a' w' → y.wpIn (FF none) 0 P Q a' w') : x.wpIn (FF none) 0 P (fun ex a' w' => (ex = .normal ∧ y.wpIn (FF none) 0 P Q a' w') ∨ (ex = .ret ∧ Q .ret a' w')) a w :=
  wpIn_mono h1 (fun ex a' w' h => by
    rcases h with ⟨e, hi⟩ | h
    · exact .inl ⟨e, h2 a' w' hi⟩
    · exact .inr h)

/-- Statements, the last of them the first part of a sequence. -/
theorem At.segs2L {ρ1 ρ2 : Rho} {P : Program} {e : Env} (he : @Env.Ok ρ1 P e) {w0 : World} {n : Nat} {x y b : Code} {fr2 : Fr} {s2 : St} {σ : List Value} {π : List Nat} {τ : List (Option Nat)}
    (hσ : SubOk ρ1 ρ2 0 σ) (hτ : LsubOk ρ1 ρ2 0 τ) (hm : ∀ B o, ρ2.mem B = some o → ρ1.mem B = some o) (hw2 : s2.Wf) {Q : Exit → Act → World → Prop} (hQ : ∀ a' w', @At ρ2 w0 fr2 s2 a' w' → y.wpIn (FF none) 0 P (fun ex a w => (ex = .normal ∧ b.wpIn (FF none) 0 P Q a w) ∨ (ex = .ret ∧ Q .ret a w)) a' w') :
    ∀ {as : List Code} {fr : Fr} {s : St} {a : Act} {w : World}, segA P e n (as ++ [x]) fr s (fun fr' s' => stopL .normal σ π τ fr2 s2 .normal fr' s') = some () → s.Wf → @At ρ1 w0 fr s a w → (seqs as (.seq (.seq x y) b)).wpIn (FF none) 0 P Q a w
  | [], fr, s, a, w, h, hw, hat => by
    simp only [List.nil_append, segA] at h
    obtain ⟨ex, fr1, s1, hk, hw1, hgo⟩ := @At.run ρ1 Unit P e he w0 n x fr s _ () h hw
    cases ex with
    | normal =>
      simp only [stopL, sameEx, cond_true] at hk
      cases h2 : agreeL σ π τ fr2 s2 fr1 s1 with
      | false => rw [h2] at hk; cases hk
      | true =>
        refine wpIn_seq (wpIn_seq (hgo a w hat _ (fun a' w' hat' => wpIn_mono (hQ a' w' (At.shiftL hσ hτ hm hw2 h2 hat')) (fun ex a w h => ?_))))
        rcases h with ⟨e, h⟩ | ⟨e, h⟩
        · subst e; exact h
        · subst e; exact h
    | exit id => cases hk
    | ret => cases hk
  | z :: as, fr, s, a, w, h, hw, hat => by
    simp only [List.cons_append, segA] at h
    obtain ⟨ex, fr1, s1, hk, hw1, hgo⟩ := @At.run ρ1 Unit P e he w0 n z fr s _ () h hw
    cases ex with
    | normal => exact wpIn_seq (hgo a w hat _ (fun a' w' hat' => At.segs2L he hσ hτ hm hw2 hQ hk hw1 hat'))
    | exit id => cases hk
    | ret => cases hk

/-- Statements, the last of them the first part of a sequence. -/
theorem At.segs2 {ρ1 ρ2 : Rho} {P : Program} {e : Env} (he : @Env.Ok ρ1 P e) {w0 : World} {n : Nat} {x y b : Code} {fr2 : Fr} {s2 : St} {σ : List Value} {π : List Nat}
    (hσ : SubOk ρ1 ρ2 0 σ) (hm : ∀ B o, ρ2.mem B = some o → ρ1.mem B = some o) (hw2 : s2.Wf) {Q : Exit → Act → World → Prop} (hQ : ∀ a' w', @At ρ2 w0 fr2 s2 a' w' → y.wpIn (FF none) 0 P (fun ex a w => (ex = .normal ∧ b.wpIn (FF none) 0 P Q a w) ∨ (ex = .ret ∧ Q .ret a w)) a' w') :
    ∀ {as : List Code} {fr : Fr} {s : St} {a : Act} {w : World}, segA P e n (as ++ [x]) fr s (fun fr' s' => stop .normal σ π fr2 s2 .normal fr' s') = some () → s.Wf → @At ρ1 w0 fr s a w → (seqs as (.seq (.seq x y) b)).wpIn (FF none) 0 P Q a w := fun h hw hat => At.segs2L (τ := []) he hσ trivial hm hw2 hQ h hw hat

/-- The first statements of a code, evaluated by symbols. -/
theorem At.cutL {ρ1 ρ2 : Rho} {P : Program} {e : Env} (he : @Env.Ok ρ1 P e) {w0 : World} {n m : Nat} {c : Code} {fr fr2 : Fr} {s s2 : St} {σ : List Value} {π : List Nat} {τ : List (Option Nat)}
    (h : segA P e n (takeC m c) fr s (fun fr' s' => stopL .normal σ π τ fr2 s2 .normal fr' s') = some ()) (hσ : SubOk ρ1 ρ2 0 σ) (hτ : LsubOk ρ1 ρ2 0 τ) (hm : ∀ B o, ρ2.mem B = some o → ρ1.mem B = some o) (hw : s.Wf) (hw2 : s2.Wf)
    {a : Act} {w : World} (hat : @At ρ1 w0 fr s a w) {Q : Exit → Act → World → Prop} (hQ : ∀ a' w', @At ρ2 w0 fr2 s2 a' w' → (dropC m c).wpIn (FF none) 0 P Q a' w') : c.wpIn (FF none) 0 P Q a w := by
  have := At.segsL he hσ hτ hm hw2 hQ (takeC m c) fr s a w h hw hat
  rwa [seqs_take] at this

/-- The first statements of a code, evaluated by symbols. -/
theorem At.cut {ρ1 ρ2 : Rho} {P : Program} {e : Env} (he : @Env.Ok ρ1 P e) {w0 : World} {n m : Nat} {c : Code} {fr fr2 : Fr} {s s2 : St} {σ : List Value} {π : List Nat}
    (h : segA P e n (takeC m c) fr s (fun fr' s' => stop .normal σ π fr2 s2 .normal fr' s') = some ()) (hσ : SubOk ρ1 ρ2 0 σ) (hm : ∀ B o, ρ2.mem B = some o → ρ1.mem B = some o) (hw : s.Wf) (hw2 : s2.Wf)
    {a : Act} {w : World} (hat : @At ρ1 w0 fr s a w) {Q : Exit → Act → World → Prop} (hQ : ∀ a' w', @At ρ2 w0 fr2 s2 a' w' → (dropC m c).wpIn (FF none) 0 P Q a' w') : c.wpIn (FF none) 0 P Q a w := At.cutL (τ := []) he h hσ trivial hm hw hw2 hat hQ

/-- One block that nobody writes to. -/
def memOne (B : Nat) (ob : Obj) (b : Nat) : Option Obj := if b = B then some ob else none
theorem memOne_at (B : Nat) (ob : Obj) : memOne B ob B = some ob := if_pos rfl
theorem memOk_one {l : List Value} {B : Nat} {ob : Obj} {w : World} (h : w.heap[B]? = some ob) : @MemOk (Rho.of l (memOne B ob)) w := fun b o e => by
  have e' : memOne B ob b = some o := e
  unfold memOne at e'
  split at e'
  · rename_i hb; subst hb; injection e' with e'; subst e'; exact h
  · cases e'

def headC : Code → Code
  | .seq a _ => a
  | c => c
def tailC : Code → Code
  | .seq _ b => b
  | _ => .skip
def inBlockC : Code → Code
  | .block _ c => c
  | c => c
def inLoopC : Code → Code
  | .loop c => c
  | c => c
abbrev sy (n : Nat) : Value := .chan (some n)
abbrev iV (x : Int) : Value := .int .i64 x
end Go.Ev
