/- An evaluator of closed Go code, part 23: a closed call, as it was evaluated; an environment, checked. -/
import Derived.Test.YtoiifmijmalgpaaEvX
import Derived.Test.YtoiifmijmalgpaaEvN
set_option linter.unusedSimpArgs false
set_option linter.unusedVariables false
namespace Go.Ev
open Go Go.RowKit

def PT.Every {α : Type} (Q : Nat → α → Prop) : Nat → PT α → Nat → Nat → Prop
  | 0, .leaf a, n, _ => Q n a
  | d + 1, .node l r, n, m => PT.Every Q d l n (2 * m) ∧ PT.Every Q d r (n + m) (2 * m)
  | _, _, _, _ => True

theorem PT.every_get {α : Type} {Q : Nat → α → Prop} : ∀ (d : Nat) (T : PT α) (n m i : Nat) (a : α), PT.Every Q d T n m → PT.get d T i = some a → i < 2 ^ d → Q (n + m * i) a
  | 0, T, n, m, i, a, h, hg, hi => by
    have hi0 : i = 0 := by simpa using hi
    subst hi0
    cases T with
    | leaf b => rw [PT.get_leaf0] at hg; injection hg with hg; subst hg; simpa [PT.Every] using h
    | nil => rw [PT.get_nil0] at hg; cases hg
    | node l r => rw [PT.get_node0] at hg; cases hg
  | d + 1, T, n, m, i, a, h, hg, hi => by
    cases T with
    | nil => rw [PT.get_nils] at hg; cases hg
    | leaf b => rw [PT.get_leafs] at hg; cases hg
    | node l r =>
      obtain ⟨h1, h2⟩ := h
      have hi' : i / 2 < 2 ^ d := by rw [Nat.pow_succ] at hi; omega
      rw [PT.get_nodes] at hg
      rcases Nat.mod_two_eq_zero_or_one i with h0 | h0
      · have e : i = 2 * (i / 2) := by omega
        rw [h0] at hg
        have := PT.every_get d l n (2 * m) (i / 2) a h1 hg hi'
        have e2 : m * i = 2 * m * (i / 2) := by
          conv => lhs; rw [e]
          rw [← Nat.mul_assoc, Nat.mul_comm m 2]
        rw [e2]; exact this
      · have e : i = 2 * (i / 2) + 1 := by omega
        rw [h0] at hg
        have := PT.every_get d r (n + m) (2 * m) (i / 2) a h2 hg hi'
        have e2 : n + m * i = n + m + 2 * m * (i / 2) := by
          conv => lhs; rw [e]
          rw [Nat.mul_add, ← Nat.mul_assoc, Nat.mul_comm m 2]
          omega
        rw [e2]; exact this

def TyOk (P : Program) (t : Nat) (i : TI) : Prop := P.underlying t = some i.desc ∧ ∃ j, P.info? t = some j ∧ j.size = i.size ∧ j.bytes = i.bytes ∧ j.zero = i.zero
def FnOk (P : Program) (f : Nat) (fn : Func) : Prop := P.funcs[f]? = some fn ∧ (fn.name == "runtime.NumGoroutine") = false

theorem Env.ok {P : Program} {e : Env} (ht : e.ty.Every (TyOk P) 10 0 1) (hf : e.fn.Every (FnOk P) 10 0 1)
    (hm : ∀ t n f, e.meth t n = some f → ∀ v w, (method (P.types.size + Made.depth) t v n).run P w = .ok (f, v) w) (hx : P.follows .mixedOrders = true)
    (hk : ∀ f v, e.known f = some v → plain 3 v = true ∧ (∃ fn c, e.fnOf f = some fn ∧ fn.body = some c) ∧ ∀ w, Calls P f #[] w (fun en w' => en = .returned v ∧ Below w.heap.size w w')) : Env.Ok P e where
  ty t i h := by
    unfold Env.tyOf at h
    cases hb : Nat.blt t 1024 with
    | false => rw [hb] at h; cases h
    | true =>
      rw [hb, cond_true] at h
      have := PT.every_get 10 e.ty 0 1 t i ht h (Nat.le_of_ble_eq_true hb)
      simpa [TyOk] using this
  fn f fn h := by
    unfold Env.fnOf at h
    cases hb : Nat.blt f 1024 with
    | false => rw [hb] at h; cases h
    | true =>
      rw [hb, cond_true] at h
      have := PT.every_get 10 e.fn 0 1 f fn hf h (Nat.le_of_ble_eq_true hb)
      simpa [FnOk] using this
  meth := hm
  mixed := hx
  known := hk

/-- One function without arguments, and its answer, besides. -/
def Env.with (e : Env) (f : FuncId) (v : Value) : Env := ⟨e.ty, e.fn, e.meth, fun g => cond (Nat.beq g f) (some v) (e.known g)⟩
theorem Env.Ok.with {P : Program} {e : Env} (he : Env.Ok P e) {f : FuncId} {v : Value} (hp : plain 3 v = true) (hf : ∃ fn c, e.fnOf f = some fn ∧ fn.body = some c)
    (hc : ∀ w, Calls P f #[] w (fun en w' => en = .returned v ∧ Below w.heap.size w w')) : Env.Ok P (e.with f v) where
  ty := he.ty
  fn := he.fn
  meth := he.meth
  mixed := he.mixed
  known g u h := by
    have h' : cond (Nat.beq g f) (some v) (e.known g) = some u := h
    cases hg : Nat.beq g f with
    | true =>
      rw [hg, cond_true] at h'
      injection h' with h'
      subst h'
      have := Nat.eq_of_beq_eq_true hg
      subst this
      exact ⟨hp, hf, hc⟩
    | false =>
      rw [hg, cond_false] at h'
      exact he.known g u h'

theorem ty_ok {P : Program} {t : Nat} {d : TypeDesc} {i : TypeInfo} (h : P.underlying t = some d) (hi : P.info? t = some i) : TyOk P t ⟨d, i.size, i.bytes, i.zero⟩ := ⟨h, i, hi, rfl, rfl, rfl⟩

/-- The state that a closed call begins in. -/
def start : St := ⟨.nil, 0, [], 0, []⟩
theorem start_at (id : Nat) : start.at id = .dead := by
  refine at_raw_dead ?_
  simp only [start, St.raw, PT.get_nil]
  cases Nat.blt id hmax <;> rfl

theorem calls_of_ev {P : Program} {e : Env} (he : Env.Ok P e) {n : Nat} {f : FuncId} {v : Value} (hv : ∀ γ v', VRel γ v v' → v' = v) (h : ev P e n (.call f [] start fun v _ => some v) = some v) (w : World) :
    Calls P f #[] w (fun en w' => en = .returned v ∧ Below w.heap.size w w') := by
  have hat : start.at = fun _ => .dead := funext start_at
  have hno : ∀ B, ¬ Own (fun _ => none) start.at B := fun B ⟨id, O, C, h1, h2⟩ => by cases h2
  have hw : start.Wf := ⟨Nat.le_refl _, fun id _ => by
    simp only [start, St.raw, PT.get_nil]
    cases Nat.blt id hmax <;> rfl⟩
  obtain ⟨u, s', hk, hraw, hok⟩ := ev_ok he n _ _ h hw
  injection hk with hk
  subst hk
  have hS : Sat (fun _ => none) start.at w := ⟨fun id => by rw [hat]; trivial, fun i j B O C O' C' ai => by rw [hat] at ai; cases ai⟩
  refine callsIn_wide.1 (hok (fun _ => none) #[] w (LRel.nil _) hS (fun _ _ _ => rfl) _ (fun γ' w' v' st hr => ⟨by rw [hv _ _ hr], ?_⟩))
  exact ⟨st.os, st.tape, st.output, st.size, fun k hk => st.frame k hk (hno k)⟩

theorem calls_true {P : Program} {e : Env} (he : Env.Ok P e) {n : Nat} {f : FuncId} (h : ev P e n (.call f [] start fun v _ => some v) = some (.bool true)) (w : World) :
    Calls P f #[] w (fun en w' => en = .returned (.bool true) ∧ Below w.heap.size w w') := calls_of_ev he (fun _ _ hr => hr.bool_inv) h w
end Go.Ev
