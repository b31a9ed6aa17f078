/- Symbols, part 2: pieces of a body, loops, the end of a function, its contract. -/
import Derived.Test.YtoaehigmpbhppaaEwA
set_option linter.unusedSimpArgs false
set_option linter.unusedVariables false
namespace Go.Ev
open Go Go.RowKit

def sameEx : Ex → Ex → Bool
  | .normal, .normal => true
  | .exit a, .exit b => Nat.beq a b
  | .ret, .ret => true
  | _, _ => false
theorem sameEx_eq {a b : Ex} (h : sameEx a b = true) : a = b := by
  cases a <;> cases b <;> first | rfl | (rw [Nat.eq_of_beq_eq_true h]) | cases h

/-- The end of a piece: it is left so, and the frame and the state that are named say only what is so. -/
def stopL (want : Ex) (σ : List Value) (π : List Nat) (τ : List (Option Nat)) (fr2 : Fr) (s2 : St) (ex : Ex) (fr1 : Fr) (s1 : St) : Option Unit :=
  cond (sameEx ex want) (cond (agreeL σ π τ fr2 s2 fr1 s1) (some ()) none) none
def stop (want : Ex) (σ : List Value) (π : List Nat) (fr2 : Fr) (s2 : St) (ex : Ex) (fr1 : Fr) (s1 : St) : Option Unit := stopL want σ π [] fr2 s2 ex fr1 s1

/-- A piece of code, evaluated by symbols. -/
theorem At.pieceL {ρ1 ρ2 : Rho} {P : Program} {e : Env} (he : @Env.Ok ρ1 P e) {w0 : World} {n : Nat} {c : Code} {want : Ex} {fr fr2 : Fr} {s s2 : St} {σ : List Value} {π : List Nat} {τ : List (Option Nat)}
    (h : ev P e n (.code c none fr s (stopL want σ π τ fr2 s2)) = some ()) (hσ : SubOk ρ1 ρ2 0 σ) (hτ : LsubOk ρ1 ρ2 0 τ) (hm : ∀ B o, ρ2.mem B = some o → ρ1.mem B = some o) (hw : s.Wf) (hw2 : s2.Wf)
    {a : Act} {w : World} (hat : @At ρ1 w0 fr s a w) {Q : Exit → Act → World → Prop} (hQ : ∀ a' w', @At ρ2 w0 fr2 s2 a' w' → Q (exC want) a' w') : c.wpIn (FF none) 0 P Q a w := by
  obtain ⟨ex, fr1, s1, hk, _, hgo⟩ := @At.run ρ1 Unit P e he w0 n c fr s _ () h hw
  unfold stopL at hk
  cases h1 : sameEx ex want with
  | false => rw [h1] at hk; cases hk
  | true =>
    rw [h1, cond_true] at hk
    cases h2 : agreeL σ π τ fr2 s2 fr1 s1 with
    | false => rw [h2] at hk; cases hk
    | true =>
      rw [← sameEx_eq h1] at hQ
      exact hgo a w hat Q (fun a' w' hat' => hQ a' w' (At.shiftL hσ hτ hm hw2 h2 hat'))

/-- A piece of code, evaluated by symbols. -/
theorem At.piece {ρ1 ρ2 : Rho} {P : Program} {e : Env} (he : @Env.Ok ρ1 P e) {w0 : World} {n : Nat} {c : Code} {want : Ex} {fr fr2 : Fr} {s s2 : St} {σ : List Value} {π : List Nat}
    (h : ev P e n (.code c none fr s (stop want σ π fr2 s2)) = some ()) (hσ : SubOk ρ1 ρ2 0 σ) (hm : ∀ B o, ρ2.mem B = some o → ρ1.mem B = some o) (hw : s.Wf) (hw2 : s2.Wf)
    {a : Act} {w : World} (hat : @At ρ1 w0 fr s a w) {Q : Exit → Act → World → Prop} (hQ : ∀ a' w', @At ρ2 w0 fr2 s2 a' w' → Q (exC want) a' w') : c.wpIn (FF none) 0 P Q a w := At.pieceL (τ := []) he h hσ trivial hm hw hw2 hat hQ

/-- Two pieces of a sequence. -/
theorem sym_then {P : Program} {x y : Code} {Q : Exit → Act → World → Prop} {a : Act} {w : World} {I : Act → World → Prop} (h1 : x.wpIn (FF none) 0 P (fun ex a' w' => (ex = .normal ∧ I a' w') ∨ (ex = .ret ∧ Q .ret a' w')) a w)
    (h2 : ∀ a' w', I a' w' → y.wpIn (FF none) 0 P Q a' w') : (Code.seq x y).wpIn (FF none) 0 P Q a w :=
  wpIn_seq (wpIn_mono h1 (fun ex a' w' h => by
    rcases h with ⟨e, hi⟩ | ⟨e, hq⟩
    · subst e; exact h2 a' w' hi
    · subst e; exact hq))

def notOut : Exit → Bool
  | .normal | .exit _ | .ret => true
  | _ => false

/-- A loop: from what holds at its head, each round comes to its head again with something less, or leaves. -/
theorem loop_rounds {P : Program} {c : Code} {X : Type} (I : X → Act → World → Prop) (m : X → Nat) {Q : Exit → Act → World → Prop}
    (round : ∀ x a w, I x a w → c.wpIn (FF none) 0 P (fun ex a' w' => (ex = .normal ∧ ∃ x', m x' < m x ∧ I x' a' w') ∨ ((∃ id, ex = .exit id) ∨ ex = .ret) ∧ Q ex a' w') a w) :
    ∀ x a w, I x a w → (Code.loop c).wpIn (FF none) 0 P Q a w := by
  have key : ∀ k x a w, m x = k → I x a w → (Code.loop c).wpIn (FF none) 0 P (fun ex a' w' => ((∃ id, ex = .exit id) ∨ ex = .ret) ∧ Q ex a' w') a w := by
    intro k
    induction k using Nat.strongRecOn with
    | ind k ih =>
      intro x a w hk hi
      refine wpIn_loop_again (wpIn_mono (round x a w hi) (fun ex a' w' h => ?_)) (fun l a w ⟨h, _⟩ => by rcases h with ⟨id, h⟩ | h <;> cases h) (fun a w ⟨h, _⟩ => by rcases h with ⟨id, h⟩ | h <;> cases h)
      rcases h with ⟨rfl, x', hx, hi'⟩ | ⟨hex, hq⟩
      · exact ih (m x') (by omega) x' a' w' rfl hi'
      · rcases hex with ⟨id, rfl⟩ | rfl
        · exact ⟨.inl ⟨id, rfl⟩, hq⟩
        · exact ⟨.inr rfl, hq⟩
  intro x a w hi
  exact wpIn_mono (key (m x) x a w rfl hi) (fun _ _ _ h => h.2)

/-- A block that is left by its own exit, or at its end. -/
theorem sym_block {P : Program} {id : Nat} {c : Code} {Q : Exit → Act → World → Prop} {a : Act} {w : World} (h : c.wpIn (FF none) 0 P (fun ex a' w' => (ex = .exit id ∧ Q .normal a' w') ∨ (ex ≠ .exit id ∧ Q ex a' w')) a w) :
    (Code.block id c).wpIn (FF none) 0 P Q a w := by
  refine wpIn_block (wpIn_mono h (fun ex a' w' hq => ?_))
  rcases hq with ⟨rfl, hq⟩ | ⟨hne, hq⟩
  · simpa [Exit.inBlock] using hq
  · cases ex with
    | exit id' =>
      have e : ¬ id' = id := fun q => hne (by rw [q])
      simpa [Exit.inBlock, e] using hq
    | _ => simpa [Exit.inBlock] using hq

section
variable [Rho]

/-- The end of a function. -/
theorem At.last {P : Program} {e : Env} (he : Env.Ok P e) {w0 : World} {n : Nat} {c : Code} {fn : Func} {fr : Fr} {s : St} {u : Value} {R : Ending → World → Prop}
    (h : ev P e n (.code c none fr s (retK e fn fun v _ => cond (sameV 4 u v) (some ()) none)) = some ()) (hu : closed 3 u = true) (hw : s.Wf)
    {a : Act} {w : World} (hat : At w0 fr s a w) (hR : ∀ w', Below w0.heap.size w0 w' → R (.returned (den 3 u)) w') : c.wpIn (FF none) 0 P (bodyPostM Fence.wide 0 P fn R) a w := by
  obtain ⟨ex, fr1, s1, hk, hw1, hgo⟩ := At.run he h hw
  have hno : ∀ B, ¬ Own (fun _ => none) start.at B := fun B ⟨id, O, C, h1, h2⟩ => by cases h2
  have main : ∀ (hex : ex = .normal ∨ ex = .ret), (dropMarks fr1.D s1 fun s2 => match resAs e fr1.T s2 fn.results.toList with | some vs => (fun v _ => cond (sameV 4 u v) (some ()) none) (resV vs) s2 | none => none) = some () →
      c.wpIn (FF none) 0 P (bodyPostM Fence.wide 0 P fn R) a w := by
    intro hex hdm
    obtain ⟨s2, hk2, hraw2, hn2, hmarks⟩ := dropMarks_ok (P := P) (fn := fn) fr1.D s1 _ () hdm hw1
    split at hk2
    case h_2 => cases hk2
    rename_i vs hvs
    have hv : u = resV vs := by
      cases hs : sameV 4 u (resV vs) with
      | true => exact sameV_eq 4 _ _ hs
      | false => simp only [hs, cond_false] at hk2; cases hk2
    refine hgo a w hat _ (fun a1 w1 ⟨γ1, st1, hf1, _⟩ => ?_)
    have hl : LeavesInM Fence.wide 0 P fn a1.tmps R a1.defers .returning w1 := by
      refine hmarks γ1 w1 a1.defers a1.tmps R hf1.2 st1.sat (fun w2 st2 => ?_)
      obtain ⟨v', hr, hvr⟩ := results_ok he hvs hf1.1 st2.sat
      have stt := st1.trans (Nat.zero_le _) hraw2.next st2
      rw [← hv] at hvr
      rw [closed_eq _ 3 _ _ hu hvr] at hr
      exact ⟨den 3 u, hr, hR w2 ⟨stt.os, stt.tape, stt.output, stt.size, fun k hk => stt.frame k hk (hno k)⟩⟩
    rcases hex with rfl | rfl <;> exact hl
  unfold retK at hk
  cases ex with
  | exit id => cases hk
  | normal => exact main (.inl rfl) hk
  | ret => exact main (.inr rfl) hk

def stopR (e : Env) (fn : Func) (u : Value) (ex : Ex) (fr : Fr) (s : St) : Option Unit := match ex with
  | .ret => retK e fn (fun v _ => cond (sameV 4 u v) (some ()) none) .ret fr s
  | _ => none

/-- A piece of code that returns. -/
theorem At.ret {P : Program} {e : Env} (he : Env.Ok P e) {w0 : World} {n : Nat} {c : Code} {fn : Func} {fr : Fr} {s : St} {u : Value} {R : Ending → World → Prop}
    (h : ev P e n (.code c none fr s (stopR e fn u)) = some ()) (hu : closed 3 u = true) (hw : s.Wf)
    {a : Act} {w : World} (hat : At w0 fr s a w) (hR : ∀ w', Below w0.heap.size w0 w' → R (.returned (den 3 u)) w') {Q : Exit → Act → World → Prop}
    (hQ : ∀ a' w', bodyPostM Fence.wide 0 P fn R .ret a' w' → Q .ret a' w') : c.wpIn (FF none) 0 P Q a w := by
  obtain ⟨ex, fr1, s1, hk, hw1, hgo⟩ := At.run he h hw
  have hno : ∀ B, ¬ Own (fun _ => none) start.at B := fun B ⟨id, O, C, h1, h2⟩ => by cases h2
  cases ex with
  | normal => cases hk
  | exit id => cases hk
  | ret =>
    have hdm : (dropMarks fr1.D s1 fun s2 => match resAs e fr1.T s2 fn.results.toList with | some vs => (fun v _ => cond (sameV 4 u v) (some ()) none) (resV vs) s2 | none => none) = some () := hk
    obtain ⟨s2, hk2, hraw2, hn2, hmarks⟩ := dropMarks_ok (P := P) (fn := fn) fr1.D s1 _ () hdm hw1
    split at hk2
    case h_2 => cases hk2
    rename_i vs hvs
    have hv : u = resV vs := by
      cases hs : sameV 4 u (resV vs) with
      | true => exact sameV_eq 4 _ _ hs
      | false => simp only [hs, cond_false] at hk2; cases hk2
    refine hgo a w hat _ (fun a1 w1 ⟨γ1, st1, hf1, _⟩ => hQ a1 w1 ?_)
    have hl : LeavesInM Fence.wide 0 P fn a1.tmps R a1.defers .returning w1 := by
      refine hmarks γ1 w1 a1.defers a1.tmps R hf1.2 st1.sat (fun w2 st2 => ?_)
      obtain ⟨v', hr, hvr⟩ := results_ok he hvs hf1.1 st2.sat
      have stt := st1.trans (Nat.zero_le _) hraw2.next st2
      rw [← hv] at hvr
      rw [closed_eq _ 3 _ _ hu hvr] at hr
      exact ⟨den 3 u, hr, hR w2 ⟨stt.os, stt.tape, stt.output, stt.size, fun k hk => stt.frame k hk (hno k)⟩⟩
    exact hl

def argT (d : Nat) (args : List Value) : PT Value := (setArgs d .nil 0 args some).getD .nil
/-- The frame in which a function begins. -/
def frameOf (fn : Func) (args : List Value) : Fr := ⟨⟨argT (depthOf fn.ntmps) args, fn.ntmps, depthOf fn.ntmps⟩, []⟩

/-- A function's contract, from its body's. -/
theorem calls_of_body {P : Program} {e : Env} (he : Env.Ok P e) {f : FuncId} {fn : Func} {c : Code} {args : List Value} {w : World} {R : Ending → World → Prop} (hf : e.fnOf f = some fn) (hc : fn.body = some c) (hn : fn.ntmps ≤ 1024) (hl : args.length ≤ fn.ntmps)
    (ha : args.all (closed 3) = true) (hm : MemOk w) (h : ∀ a, At w (frameOf fn args) start a w → c.wpIn (FF none) 0 P (bodyPostM Fence.wide 0 P fn R) a w) : Calls P f (dens 3 args).toArray w R := by
  refine (callsIn_wide (n := 0)).1 (callsIn_of_wp_marks (he.fn f fn hf).1 hc trivial ?_)
  have hargs : LRel (fun _ => none) args (dens 3 args).toArray.toList := by
    refine ⟨by simp [dens], fun i h1 h2 => ?_⟩
    have := closed_rel (fun _ => none) 3 args[i] (List.all_eq_true.1 ha _ (List.getElem_mem h1))
    simpa [dens] using this
  have hd := depthOf_le hn
  have hset : ∃ T', setArgs (depthOf fn.ntmps) .nil 0 args some = some T' ∧ ∀ j, j < 2 ^ (depthOf fn.ntmps) → PT.get (depthOf fn.ntmps) T' j = if 0 ≤ j ∧ j < 0 + args.length then args[j - 0]? else PT.get (depthOf fn.ntmps) .nil j := by
    cases hs : setArgs (depthOf fn.ntmps) .nil 0 args some with
    | some T' =>
      obtain ⟨T2, q1, q2⟩ := setArgs_ok (depthOf fn.ntmps) args .nil 0 some T' hs (by omega)
      injection q1 with q1
      subst q1
      exact ⟨_, rfl, q2⟩
    | none =>
      exfalso
      have tot : ∀ (vs : List Value) (T : PT Value) (i : Nat), setArgs (depthOf fn.ntmps) T i vs some ≠ none := by
        intro vs
        induction vs with
        | nil => intro T i hh; cases hh
        | cons v vs ih => intro T i hh; simp only [setArgs, forceV_eq, PT.setK_eq, forceNat_eq] at hh; exact ih _ _ hh
      exact tot args .nil 0 hs
  obtain ⟨T', hT1, hT2⟩ := hset
  have hTr := args_rel hd hl hargs hT2
  have hfr : frameOf fn args = ⟨⟨T', fn.ntmps, depthOf fn.ntmps⟩, []⟩ := by unfold frameOf argT; rw [hT1]; rfl
  rw [show Fence.wide = FF none from rfl]
  refine h _ ⟨fun _ => none, Step.refl (lo := 0) (hi := start.next) (start_sat hm), ?_, fun _ _ => rfl⟩
  rw [hfr]
  exact ⟨hTr, trivial⟩
end

/-! ### states, written as lists -/
def mkT (d : Nat) : List (Nat × Value) → PT Value → PT Value
  | [], T => T
  | p :: l, T => mkT d l (PT.set d T p.1 p.2)
def mkFr (fn : Func) (l : List (Nat × Value)) (D : List Nat) : Fr := ⟨⟨mkT (depthOf fn.ntmps) l .nil, fn.ntmps, depthOf fn.ntmps⟩, D⟩
def mkH : List (Nat × AB) → PT AB → PT AB
  | [], T => T
  | p :: l, T => mkH l (cond (Nat.blt p.1 hmax) (PT.set hdep T p.1 p.2) T)
def mkSt (n : Nat) (l : List (Nat × AB)) : St := ⟨mkH l .nil, n, [], 0, []⟩
theorem mkH_raw : ∀ (l : List (Nat × AB)) (T : PT AB) (n : Nat), l.all (fun p => Nat.blt p.1 n) = true → (∀ id, n ≤ id → id < hmax → (PT.get hdep T id).getD .dead = .dead) →
    ∀ id, n ≤ id → id < hmax → (PT.get hdep (mkH l T) id).getD .dead = .dead
  | [], T, n, _, h => h
  | p :: l, T, n, hl, h => by
    simp only [List.all_cons, Bool.and_eq_true] at hl
    refine mkH_raw l _ n hl.2 (fun id hid hb => ?_)
    cases hp : Nat.blt p.1 hmax with
    | false => exact h id hid hb
    | true =>
      rw [cond_true, PT.get_set hdep T p.1 id _ (Nat.le_of_ble_eq_true hp) hb]
      have : p.1 < n := Nat.le_of_ble_eq_true hl.1
      rw [if_neg (by omega)]
      exact h id hid hb
theorem mkSt_wf {n : Nat} {l : List (Nat × AB)} (h : l.all (fun p => Nat.blt p.1 n) = true) : (mkSt n l).Wf := ⟨Nat.zero_le _, fun id hid => by
  simp only [mkSt, St.raw]
  cases hb : Nat.blt id hmax with
  | false => rfl
  | true => exact mkH_raw l .nil n h (fun id _ _ => by rw [PT.get_nil]; rfl) id hid (Nat.le_of_ble_eq_true hb)⟩

/-! ### valuations, written as lists -/
def oneOf (v : Value) : Value := cond v.oneCell' v (.bool false)
abbrev Rho.of (l : List Value) (mem : Nat → Option Obj) (ls : List (List Value) := []) : Rho where
  val s := match nth l s with
    | some v => oneOf v
    | none => .bool false
  one' s := by
    cases nth l s with
    | none => rfl
    | some v =>
      show (oneOf v).oneCell' = true
      unfold oneOf
      cases h : v.oneCell' with
      | true => exact h
      | false => rfl
  mem := mem
  lst k := (nth ls k).getD []
end Go.Ev
