/- An evaluator of closed Go code, part 2: operations that touch no memory. -/
import Derived.Test.YtbghajfpjjfjcaaEvA
import Derived.Deep.AppendSrc
import Derived.Deep.MidRow
import Derived.Laws.Tables
set_option linter.unusedSimpArgs false
set_option linter.unusedVariables false
namespace Go.Ev
open Go Go.RowKit

def peek (P : Program) {α : Type} : Sem α → Option α
  | .pure a => some a
  | .program k => peek P (k P)
  | .mark _ k => peek P k
  | _ => none

theorem peek_run (P : Program) {α : Type} (m : Sem α) : ∀ (a : α), peek P m = some a → ∀ w, m.run P w = .ok a w := by
  induction m with
  | pure a => intro b h w; simp [peek] at h; subst h; rfl
  | program k ih => intro b h w; simp only [peek] at h; simp only [Sem.run]; exact ih P b h w
  | mark m k ih => intro b h w; simp only [peek] at h; simp only [Sem.run]; exact ih b h w
  | _ => intro b h; simp [peek] at h

structure TI where
  desc : TypeDesc
  size : Nat
  bytes : Nat
  zero : Option Value

variable [Rho]

/-- An operation that touches no named memory, and what of it stands in the code. -/
inductive Key where
  | bin (op : BinOp) (t : TypeId)
  | un (op : UnOp)
  | conv (s d : TypeId)
  | fieldAddr (s : TypeId) (f : Nat)
  | field (t : TypeId) (f : Nat)
  | indexAddr (t : TypeId)
  | index (t : TypeId)
  | extract (i : Nat)
  | load (t : TypeId)
  | bi (b : Nat) (tys : List TypeId)

def binN : BinOp → Nat
  | .add => 0 | .sub => 1 | .mul => 2 | .quo => 3 | .rem => 4 | .and => 5 | .or => 6 | .xor => 7 | .shl => 8 | .shr => 9 | .andNot => 10
  | .eql => 11 | .neq => 12 | .lss => 13 | .leq => 14 | .gtr => 15 | .geq => 16
def unN : UnOp → Nat
  | .neg => 0 | .xor => 1 | .not => 2 | .plus => 3
def eqNs : List Nat → List Nat → Bool
  | [], [] => true
  | a :: as, b :: bs => cond (Nat.beq a b) (eqNs as bs) false
  | _, _ => false
def Key.same : Key → Key → Bool
  | .bin a t, .bin b u => cond (Nat.beq (binN a) (binN b)) (Nat.beq t u) false
  | .un a, .un b => Nat.beq (unN a) (unN b)
  | .conv a b, .conv c d => cond (Nat.beq a c) (Nat.beq b d) false
  | .fieldAddr a b, .fieldAddr c d => cond (Nat.beq a c) (Nat.beq b d) false
  | .field a b, .field c d => cond (Nat.beq a c) (Nat.beq b d) false
  | .indexAddr a, .indexAddr b => Nat.beq a b
  | .index a, .index b => Nat.beq a b
  | .extract a, .extract b => Nat.beq a b
  | .load a, .load b => Nat.beq a b
  | .bi a l, .bi b m => cond (Nat.beq a b) (eqNs l m) false
  | _, _ => false

/-- What an operation yields where the operands have these values. -/
def KeyOk (P : Program) (w : World) : Key → List Value → Value → Prop
  | .bin op t, [a, b], r => ∀ x y, (eqGuard op t x y a b).run P w = .ok () w ∧ (binOp op t a b).run P w = .ok r w
  | .un op, [a], r => (Op.unary op a).run P w = .ok r w
  | .conv s d, [a], r => (convert s d a).run P w = .ok r w
  | .fieldAddr s f, [a], r => (Instr.fieldAt s a f).run P w = .ok r w
  | .field t f, [a], r => (Instr.field t a f).run P w = .ok r w
  | .indexAddr t, [a, i], r => (Instr.indexAt t a i).run P w = .ok r w
  | .index t, [a, i], r => (Instr.index t a i).run P w = .ok r w
  | .extract ix, [a], r => (Instr.extract a ix).run P w = .ok r w
  | .load t, [a], r => (Instr.loadAt t a).run P w = .ok r w
  | .bi 0 tys, args, r => ∀ ty, (Builtin.len_ tys.toArray ty args.toArray).run P w = .ok r w
  | .bi 1 tys, args, r => ∀ ty, (Builtin.cap_ tys.toArray ty args.toArray).run P w = .ok r w
  | .bi 2 tys, args, r => ∀ ty, (Builtin.max_ tys.toArray ty args.toArray).run P w = .ok r w
  | .bi 3 tys, args, r => ∀ ty, (Builtin.min_ tys.toArray ty args.toArray).run P w = .ok r w
  | _, _, _ => False

/-- Values without names: symbols, integers, Booleans, and what is made of them. -/
def closed : Nat → Value → Bool
  | 0, _ => false
  | n + 1, v => match v with
    | .bool _ | .int _ _ | .string _ | .chan (some _) | .slice none _ _ | .pointer none | .nilFunc | .nilIface => true
    | .agg cs | .tuple cs => cs.toList.all (closed n)
    | .func fn f c => cond (isYield fn) false (cond (f.toList.all (closed n)) (c.toList.all (closed n)) false)
    | _ => false
/-- What a value without names stands for. -/
def den : Nat → Value → Value
  | 0, v => v
  | n + 1, v => match v with
    | .chan (some s) => Rho.val s
    | .agg cs => .agg ⟨cs.toList.map (den n)⟩
    | .tuple cs => .tuple ⟨cs.toList.map (den n)⟩
    | .func fn f c => .func fn ⟨f.toList.map (den n)⟩ ⟨c.toList.map (den n)⟩
    | v => v
def dens (n : Nat) (l : List Value) : List Value := l.map (den n)

/-- What is said ahead of lists whose contents are what symbols say. -/
inductive LEnt where
  | grow (k s m sz : Nat) (vs : List Value) (k' s' : Nat)
  | idx (s : Nat) (i : Value) (sz r : Nat)
  | get (k r : Nat) (vs : List Value)
  | off (r d r' : Nat)
  | keq (s : Nat) (m : Int) (b : Bool)
  | put (k r : Nat) (vs : List Value) (k' : Nat)
  | mk (n : Value) (sz : Nat) (z : List Value) (k' s' : Nat)
/-- Is it so? A list k whose length is s gets m elements more; the place of an element; its cells; a place behind. -/
def LOk : LEnt → Prop
  | .grow k s m sz vs k' s' => vs.all (closed 3) = true ∧ vs.length = m * sz ∧ ∃ n : Nat, Rho.val s = .int .i64 n ∧ Rho.val s' = .int .i64 ((n + m : Nat) : Int) ∧ (Rho.lst k).length = n * sz ∧ Rho.lst k' = Rho.lst k ++ dens 3 vs ∧ n + m < 1048576
  | .idx s i sz r => closed 3 i = true ∧ ∃ (n m : Nat) (q : IntKind), Rho.val s = .int .i64 n ∧ den 3 i = .int q m ∧ m < n ∧ Rho.val r = .int .i64 ((m * sz : Nat) : Int)
  | .get k r vs => vs.all (closed 3) = true ∧ ∃ m : Nat, Rho.val r = .int .i64 m ∧ ∀ j, j < vs.length → (Rho.lst k)[m + j]? = (dens 3 vs)[j]?
  | .off r d r' => ∃ m : Nat, Rho.val r = .int .i64 m ∧ Rho.val r' = .int .i64 ((m + d : Nat) : Int)
  | .keq s m b => ∃ n : Int, Rho.val s = .int .i64 n ∧ (n == m) = b
  | .put k r vs k' => vs.all (closed 3) = true ∧ ∃ m : Nat, Rho.val r = .int .i64 m ∧ m + vs.length ≤ (Rho.lst k).length ∧ Rho.lst k' = (Rho.lst k).take m ++ dens 3 vs ++ (Rho.lst k).drop (m + vs.length)
  | .mk n sz z k' s' => closed 3 n = true ∧ ∃ (m : Nat) (q : IntKind), den 3 n = .int q m ∧ m < 1048576 ∧ z.length = sz ∧ Rho.val s' = .int .i64 m ∧ Rho.lst k' = (List.replicate m z).flatten
def LsOk : List LEnt → Prop
  | [] => True
  | x :: l => LOk x ∧ LsOk l

/-- A slice whose memory is new, with these cells, or nil. -/
def NewList (w w' : World) (t : TypeId) (sz : Nat) (L : List Value) (a : Option Addr) (n C : Nat) : Prop :=
  L.length = n * sz ∧ ((a = none ∧ n = 0 ∧ C = 0) ∨ ∃ B O arr, a = some ⟨B, O, none⟩ ∧ w.heap.size ≤ B ∧ w'.heap[B]? = some (.cells arr t (0, 0)) ∧ O + C * sz ≤ arr.size ∧ n ≤ C ∧ ∀ i (h : i < L.length), arr[O + i]? = some L[i])

structure Env where
  ty : PT TI
  fn : PT Func
  meth : TypeId → String → Option FuncId
  known : FuncId → Option Value
  keyEq : TypeId → Value → Value → Option Bool
  keyOk : TypeId → Value → Bool
  on : Bool
  look : Key → List Value → Option Value
  calls : FuncId → List Value → Hp → Option Value
  grow : Nat → Nat → Nat → Nat → List Value → Option (Nat × Nat)
  idx : Nat → Value → Nat → Option Nat
  getL : Nat → Nat → Nat → Nat → Option (List Value)
  offL : Nat → Nat → Option Nat
  callsL : FuncId → List Value → Hp → Nat → Option (Nat × Nat × Nat × Nat × Value)
  keq : Nat → Int → Option Bool
  putL : Nat → Nat → List Value → Option Nat
  mkL : Value → Nat → List Value → Option (Nat × Nat)
  callsG : FuncId → List Value → Hp → Nat → Option (List (Nat × AB) × List AB × Value)

/-- Blocks that are changed; new blocks. -/
def updH (h : Hp) : List (Nat × AB) → Hp
  | [] => h
  | p :: l => updH (fun j => if j = p.1 then p.2 else h j) l
def newH (h : Hp) (nx : Nat) : List AB → Hp
  | [] => h
  | b :: l => newH (fun j => if j = nx then b else h j) (nx + 1) l
def Env.tyOf (e : Env) (t : TypeId) : Option TI := cond (Nat.blt t 1024) (PT.get 10 e.ty t) none
def Env.fnOf (e : Env) (f : FuncId) : Option Func := cond (Nat.blt f 1024) (PT.get 10 e.fn f) none

structure Env.Ok (P : Program) (e : Env) : Prop where
  ty : ∀ t i, e.tyOf t = some i → P.underlying t = some i.desc ∧ ∃ j, P.info? t = some j ∧ j.size = i.size ∧ j.bytes = i.bytes ∧ j.zero = i.zero
  fn : ∀ f fn, e.fnOf f = some fn → P.funcs[f]? = some fn ∧ (fn.name == "runtime.NumGoroutine") = false
  meth : ∀ t n f, e.meth t n = some f → ∀ v w, (method (P.types.size + Made.depth) t v n).run P w = .ok (f, v) w
  mixed : P.follows .mixedOrders = true
  known : ∀ f v, e.known f = some v → plain 3 v = true ∧ (∃ fn c, e.fnOf f = some fn ∧ fn.body = some c) ∧ ∀ w, Calls P f #[] w (fun en w' => en = .returned v ∧ Below w.heap.size w w')
  keyEq : ∀ t a b r, e.keyEq t a b = some r → ∀ w, (Op.equal t a b).run P w = .ok r w
  keyOk : ∀ t v, e.keyOk t v = true → ∀ em w, (Instr.checkKey em 10000 t v).run P w = .ok () w
  look : ∀ k args v, e.look k args = some v → args.all (closed 3) = true ∧ closed 3 v = true ∧ ∀ w, MemOk w → KeyOk P w k (dens 3 args) (den 3 v)
  calls : ∀ f args v s, e.calls f args s = some v → closed 3 v = true ∧ (∃ fn c, e.fnOf f = some fn ∧ fn.body = some c) ∧
    ∀ γ (args' : Array Value) w, args'.size = args.length → (∀ i (h1 : i < args.length) (h2 : i < args'.size), VRel γ args[i] args'[i]) → Sat γ s w → Calls P f args' w (fun en w' => en = .returned (den 3 v) ∧ Below w.heap.size w w')
  grow : ∀ k s m sz vs q, e.grow k s m sz vs = some q → LOk (.grow k s m sz vs q.1 q.2)
  idx : ∀ s i sz r, e.idx s i sz = some r → LOk (.idx s i sz r)
  getL : ∀ k r n t vs, e.getL k r n t = some vs → vs.length = n ∧ LOk (.get k r vs)
  offL : ∀ r d r', e.offL r d = some r' → LOk (.off r d r')
  callsL : ∀ f args s nx k t sz sy u, e.callsL f args s nx = some (k, t, sz, sy, u) → (∃ fn c, e.fnOf f = some fn ∧ fn.body = some c) ∧
    ∀ γ (args' : Array Value) w, args'.size = args.length → (∀ i (h1 : i < args.length) (h2 : i < args'.size), VRel γ args[i] args'[i]) → Sat γ s w →
      Calls P f args' w (fun en w' => Below w.heap.size w w' ∧ ∃ v' a n C, en = .returned v' ∧ NewList w w' t sz (Rho.lst k) a n C ∧ Rho.val sy = .int .i64 (n : Nat) ∧ ∀ γ', VRel γ' (.pointer (some ⟨nx, sy, some 2⟩)) (.slice a n C) → VRel γ' u v')
  keq : ∀ s m b, e.keq s m = some b → LOk (.keq s m b)
  putL : ∀ k r vs k', e.putL k r vs = some k' → LOk (.put k r vs k')
  mkL : ∀ n sz z q, e.mkL n sz z = some q → LOk (.mk n sz z q.1 q.2)
  callsG : ∀ f args s nx upd new u, e.callsG f args s nx = some (upd, new, u) → (∃ fn c, e.fnOf f = some fn ∧ fn.body = some c) ∧
    ∀ γ (args' : Array Value) w, args'.size = args.length → (∀ i (h1 : i < args.length) (h2 : i < args'.size), VRel γ args[i] args'[i]) → Sat γ s w → (∀ id, nx ≤ id → id < nx + new.length → γ id = none) →
      Calls P f args' w (fun en w' => ∃ γ' v', en = .returned v' ∧ VRel γ' u v' ∧ Step nx (nx + new.length) γ s w γ' (newH (updH s upd) nx new) w')

def isAggD : TypeDesc → Bool
  | .struct _ | .array _ _ => true
  | _ => false

section
variable {P : Program} {e : Env} (he : Env.Ok P e)
include he

theorem ok_underlying {t : TypeId} {i : TI} (h : e.tyOf t = some i) (w : World) : (underlying t).run P w = .ok i.desc w := run_underlying (he.ty t i h).1 w
theorem ok_sizeOf {t : TypeId} {i : TI} (h : e.tyOf t = some i) (w : World) : (sizeOf t).run P w = .ok i.size w := by
  obtain ⟨_, j, hj, hs, _, _⟩ := he.ty t i h
  simp [sizeOf, typeInfo, hj, hs]
theorem ok_zero {t : TypeId} {i : TI} {z : Value} (h : e.tyOf t = some i) (hz : i.zero = some z) (w : World) : (zeroValue t).run P w = .ok z w := by
  obtain ⟨_, j, hj, _, _, hz'⟩ := he.ty t i h
  simp [zeroValue, typeInfo, hj, hz', hz]
theorem ok_bytes {t : TypeId} {i : TI} (h : e.tyOf t = some i) (w : World) : ∃ j, (typeInfo t).run P w = .ok j w ∧ P.info? t = some j ∧ j.size = i.size ∧ j.bytes = i.bytes ∧ j.zero = i.zero := by
  obtain ⟨_, j, hj, hs, hb, hz'⟩ := he.ty t i h
  exact ⟨j, by simp [typeInfo, hj], hj, hs, hb, hz'⟩
theorem ok_isAgg {t : TypeId} {i : TI} (h : e.tyOf t = some i) (w : World) : (isAgg t).run P w = .ok (isAggD i.desc) w := by
  unfold isAgg
  rw [Sem.run_bind, ok_underlying he h]
  simp only [Result.andThen_ok]
  cases i.desc <;> rfl
end

def constV (v : Value) : Option Value := match v with
  | .int k n => some (.int k n)
  | .bool b => some (.bool b)
  | v => cond (plain 8 v) (some v) none
omit [Rho] in
theorem constV_ok {v u : Value} (h : constV v = some u) : u = v ∧ plain 8 v = true := by
  unfold constV at h
  split at h
  · injection h with h; exact ⟨h.symm, by simp [plain]⟩
  · injection h with h; exact ⟨h.symm, by simp [plain]⟩
  · cases hp : plain 8 v with
    | true => rw [hp, cond_true] at h; injection h with h; exact ⟨h.symm, rfl⟩
    | false => rw [hp, cond_false] at h; cases h

def aev (T : Tm) : Operand → Option Value
  | .tmp t => tget T t
  | .const v => constV v
  | .global _ => none
  | .func f => some (.func (.func f) #[] #[])

theorem aev_rel {γ : Gam} {T : Tm} {n : Nat} {a : Act} (hT : TRel γ T n a.tmps) {x : Operand} {v : Value} (h : aev T x = some v) : VRel γ v (a.eval x) := by
  cases x with
  | tmp t => exact hT.2.2.2 t v h
  | const u =>
    obtain ⟨rfl, hp⟩ := constV_ok (show constV u = some v from h)
    exact plain_rel γ 8 _ hp
  | global g => simp [aev] at h
  | func f => simp [aev] at h; subst h; exact .func _ (by simp) _ _ _ _ rfl (fun i h1 _ => by simp at h1) rfl (fun i h1 _ => by simp at h1)

def aevs (T : Tm) : List Operand → Option (List Value)
  | [] => some []
  | x :: xs => match aev T x with
    | some v => match aevs T xs with
      | some vs => some (v :: vs)
      | none => none
    | none => none

def LRel (γ : Gam) (l l' : List Value) : Prop := l.length = l'.length ∧ ∀ i (h1 : i < l.length) (h2 : i < l'.length), VRel γ l[i] l'[i]

theorem LRel.nil (γ : Gam) : LRel γ [] [] := ⟨rfl, fun i h1 _ => by simp at h1⟩
theorem LRel.cons {γ : Gam} {v v' : Value} {l l' : List Value} (h : VRel γ v v') (hl : LRel γ l l') : LRel γ (v :: l) (v' :: l') := by
  refine ⟨by simp [hl.1], fun i h1 h2 => ?_⟩
  cases i with
  | zero => exact h
  | succ i => simpa using hl.2 i (by simpa using h1) (by simpa using h2)
theorem LRel.mono {γ γ' : Gam} (hg : γ.le γ') {l l' : List Value} (h : LRel γ l l') : LRel γ' l l' := ⟨h.1, fun i h1 h2 => (h.2 i h1 h2).mono hg⟩
theorem LRel.append {γ : Gam} {a a' b b' : List Value} (h : LRel γ a a') (k : LRel γ b b') : LRel γ (a ++ b) (a' ++ b') := by
  refine ⟨by simp [h.1, k.1], fun i h1 h2 => ?_⟩
  by_cases hi : i < a.length
  · rw [List.getElem_append_left hi, List.getElem_append_left (by rw [← h.1]; exact hi)]; exact h.2 _ _ _
  · rw [List.getElem_append_right (by omega), List.getElem_append_right (by rw [← h.1]; omega)]
    have e : i - a'.length = i - a.length := by rw [h.1]
    simp only [e]
    exact k.2 _ _ _
theorem LRel.take {γ : Gam} {a a' : List Value} (h : LRel γ a a') (n : Nat) : LRel γ (a.take n) (a'.take n) :=
  ⟨by simp [h.1], fun i h1 h2 => by simp only [List.getElem_take]; exact h.2 _ _ _⟩
theorem LRel.drop {γ : Gam} {a a' : List Value} (h : LRel γ a a') (n : Nat) : LRel γ (a.drop n) (a'.drop n) :=
  ⟨by simp [h.1], fun i h1 h2 => by simp only [List.getElem_drop]; exact h.2 _ _ _⟩
theorem LRel.get {γ : Gam} {a a' : List Value} (h : LRel γ a a') {i : Nat} {v : Value} (e : a[i]? = some v) : ∃ v', a'[i]? = some v' ∧ VRel γ v v' := by
  obtain ⟨hi, rfl⟩ := List.getElem?_eq_some_iff.1 e
  have hi' : i < a'.length := by rw [← h.1]; exact hi
  exact ⟨a'[i], List.getElem?_eq_getElem hi', h.2 i hi hi'⟩
theorem ARel.toList {γ : Gam} {a a' : Array Value} (h : ARel γ a a') : LRel γ a.toList a'.toList := ⟨by simpa using h.1, fun i h1 h2 => by simpa using h.2 i (by simpa using h1) (by simpa using h2)⟩
theorem LRel.toArray {γ : Gam} {a a' : List Value} (h : LRel γ a a') : ARel γ a.toArray a'.toArray := ⟨by simpa using h.1, fun i h1 h2 => by simpa using h.2 i (by simpa using h1) (by simpa using h2)⟩
theorem VRel.aggOf {γ : Gam} {a a' : List Value} (h : LRel γ a a') : VRel γ (.agg a.toArray) (.agg a'.toArray) := .agg _ _ h.toArray.1 h.toArray.2
theorem VRel.tupleOf {γ : Gam} {a a' : List Value} (h : LRel γ a a') : VRel γ (.tuple a.toArray) (.tuple a'.toArray) := .tuple _ _ h.toArray.1 h.toArray.2

theorem aevs_rel {γ : Gam} {T : Tm} {n : Nat} {a : Act} (hT : TRel γ T n a.tmps) : ∀ {xs : List Operand} {vs : List Value}, aevs T xs = some vs → LRel γ vs (xs.map a.eval)
  | [], vs, h => by simp [aevs] at h; subst h; exact .nil γ
  | x :: xs, vs, h => by
    simp only [aevs] at h
    cases hx : aev T x with
    | none => simp [hx] at h
    | some v =>
      cases hr : aevs T xs with
      | none => simp [hx, hr] at h
      | some r => simp [hx, hr] at h; subst h; exact .cons (aev_rel hT hx) (aevs_rel hT hr)

theorem VRel.cells {γ : Gam} {v v' : Value} (h : VRel γ v v') : LRel γ v.cells.toList v'.cells.toList := by
  have one : ∀ {u u' : Value}, VRel γ u u' → LRel γ [u] [u'] := fun h => .cons h (.nil γ)
  cases h with
  | sym s => rw [Rho.one s]; exact one (.sym s)
  | agg f f' hs hv => exact ARel.toList ⟨hs, hv⟩
  | bool b => exact one (.bool b)
  | int k n => exact one (.int k n)
  | float k n => exact one (.float k n)
  | complex k m n => exact one (.complex k m n)
  | string s => exact one (.string s)
  | nilptr => exact one .nilptr
  | ptr o h => exact one (.ptr o h)
  | nilslice n c => exact one (.nilslice n c)
  | slice o n c h hn => exact one (.slice o n c h hn)
  | slicee a c => exact one (.slicee a c)
  | nilmap => exact one .nilmap
  | map h => exact one (.map h)
  | nilchan => exact one .nilchan
  | func fn hf f f' c c' hs h gs g => exact one (.func fn hf f f' c c' hs h gs g)
  | yield h => exact one (.yield h)
  | nilfunc => exact one .nilfunc
  | iface t h => exact one (.iface t h)
  | lsl s n h hs hn => exact one (.lsl s n h hs hn)
  | lsn id s hs => exact one (.lsn id s hs)
  | lsp r m h hr => exact one (.lsp r m h hr)
  | niliface => exact one .niliface
  | tuple f f' hs hv => exact one (.tuple f f' hs hv)

theorem closed_rel (γ : Gam) : ∀ (n : Nat) (v : Value), closed n v = true → VRel γ v (den n v) := by
  intro n
  induction n with
  | zero => intro v h; simp [closed] at h
  | succ n ih =>
    intro v h
    have arr : ∀ cs : Array Value, cs.toList.all (closed n) = true → ARel γ cs ⟨cs.toList.map (den n)⟩ := fun cs hc =>
      ⟨by simp, fun i h1 h2 => by simpa using ih _ (all_at hc i h1)⟩
    cases v with
    | bool b => exact .bool b
    | int k n => exact .int k n
    | string s => exact .string s
    | chan r => cases r with
      | none => simp [closed] at h
      | some s => exact .sym s
    | slice a l c => cases a with
      | none => exact .nilslice l c
      | some a => simp [closed] at h
    | pointer a => cases a with
      | none => exact .nilptr
      | some a => simp [closed] at h
    | nilFunc => exact .nilfunc
    | nilIface => exact .niliface
    | agg cs => have := arr cs (by simpa only [closed] using h); exact .agg _ _ this.1 this.2
    | tuple cs => have := arr cs (by simpa only [closed] using h); exact .tuple _ _ this.1 this.2
    | func fn f c =>
      cases hy : isYield fn with
      | true => simp [closed, hy] at h
      | false =>
        cases hf : f.toList.all (closed n) with
        | false => simp only [closed, hy, hf, cond] at h; cases h
        | true =>
          have hc : c.toList.all (closed n) = true := by simpa only [closed, hy, hf, cond] using h
          have h1 := arr f hf
          have h2 := arr c hc
          exact .func fn (fun l e => by subst e; simp [isYield] at hy) _ _ _ _ h1.1 h1.2 h2.1 h2.2
    | _ => simp [closed] at h

theorem closed_eq (γ : Gam) : ∀ (n : Nat) (v v' : Value), closed n v = true → VRel γ v v' → v' = den n v := by
  intro n
  induction n with
  | zero => intro v v' h; simp [closed] at h
  | succ n ih =>
    intro v v' h hr
    have arr : ∀ (f f' : Array Value), f.size = f'.size → (∀ i (h1 : i < f.size) (h2 : i < f'.size), VRel γ f[i] f'[i]) → f.toList.all (closed n) = true → f' = ⟨f.toList.map (den n)⟩ := by
      intro f f' hs hv ha
      apply Array.ext (by simp [hs])
      intro i h1 h2
      have h3 : i < f.size := by omega
      simpa using ih _ _ (all_at ha i h3) (hv i h3 h1)
    cases hr with
    | sym s => rfl
    | agg f f' hs hv => rw [arr f f' hs hv (by simpa only [closed] using h)]; rfl
    | tuple f f' hs hv => rw [arr f f' hs hv (by simpa only [closed] using h)]; rfl
    | func fn hf f f' c c' hs hv gs gv =>
      cases hy : isYield fn with
      | true => simp [closed, hy] at h
      | false =>
        cases hf2 : f.toList.all (closed n) with
        | false => simp only [closed, hy, hf2, cond] at h; cases h
        | true =>
          have hc : c.toList.all (closed n) = true := by simpa only [closed, hy, hf2, cond] using h
          rw [arr f f' hs hv hf2, arr c c' gs gv hc]; rfl
    | yield hg => simp [closed, isYield] at h
    | bool | int | string | nilptr | nilslice | nilfunc | niliface => rfl
    | _ => simp [closed] at h

theorem closed_eqs (γ : Gam) (n : Nat) : ∀ (l l' : List Value), l.all (closed n) = true → LRel γ l l' → l' = dens n l
  | [], [], _, _ => rfl
  | [], _ :: _, _, h => by have := h.1; simp at this
  | _ :: _, [], _, h => by have := h.1; simp at this
  | v :: l, v' :: l', hc, h => by
    simp only [List.all_cons, Bool.and_eq_true] at hc
    have h0 : VRel γ v v' := by have := h.2 0 (by simp) (by simp); exact this
    have ht : LRel γ l l' := by simpa using h.drop 1
    rw [closed_eq γ n v v' hc.1 h0, closed_eqs γ n l l' hc.2 ht]
    rfl

/-- 'Instr.fill' over lists. -/
def fillL (place : Nat → Option (Nat × Nat)) : List Value → List (Nat × Value) → Option (List Value)
  | cells, [] => some cells
  | cells, (i, v) :: rest => match place i with
    | none => none
    | some (off, size) =>
      cond (Nat.beq v.cells.toList.length size) (cond (Nat.ble (off + size) cells.length) (fillL place (cells.take off ++ v.cells.toList ++ cells.drop (off + size)) rest) none) none

omit [Rho] in
theorem foldl_seg (off : Nat) : ∀ (vs : List Value) (s : Nat) (cs : Array Value), off + s + vs.length ≤ cs.size →
    ((vs.zipIdx s).foldl (fun (cs : Array Value) (p : Value × Nat) => cs.setIfInBounds (off + p.2) p.1) cs).toList = cs.toList.take (off + s) ++ vs ++ cs.toList.drop (off + s + vs.length)
  | [], s, cs, _ => by simp
  | v :: vs, s, cs, h => by
    simp only [List.length_cons] at h
    simp only [List.zipIdx_cons, List.foldl_cons]
    rw [foldl_seg off vs (s + 1) _ (by simp; omega)]
    apply List.ext_getElem?
    intro j
    simp only [Array.toList_setIfInBounds, List.append_assoc, List.getElem?_append, List.length_take, List.getElem?_take, List.getElem?_drop, List.getElem?_set, List.length_set, List.length_cons, Array.length_toList, List.cons_append]
    have e1 : min (off + (s + 1)) cs.size = off + s + 1 := by omega
    have e2 : min (off + s) cs.size = off + s := by omega
    simp only [e1, e2]
    rcases Nat.lt_trichotomy j (off + s) with hj | hj | hj
    · simp [show j < off + s + 1 by omega, show j < off + (s + 1) by omega, hj, show ¬ (off + s = j) by omega]
    · subst hj
      simp [show off + s < off + (s + 1) by omega, show off + s < cs.size by omega]
    · have h1 : ¬ j < off + s + 1 := by omega
      have h2 : ¬ j < off + s := by omega
      simp only [h1, h2, if_false]
      obtain ⟨k, rfl⟩ : ∃ k, j = off + s + 1 + k := ⟨j - (off + s + 1), by omega⟩
      have e3 : off + s + 1 + k - (off + s + 1) = k := by omega
      have e4 : off + s + 1 + k - (off + s) = k + 1 := by omega
      simp only [e3, e4, List.getElem?_cons_succ]
      by_cases hk : k < vs.length
      · simp [List.getElem?_append, hk]
      · have e5 : ¬ (off + s = off + s + (vs.length + 1) + (k - vs.length)) := by omega
        have e6 : off + (s + 1) + vs.length + (k - vs.length) = off + s + (vs.length + 1) + (k - vs.length) := by omega
        simp [List.getElem?_append, hk, e5, e6]

theorem fill_rel {γ : Gam} (place : Nat → Option (Nat × Nat)) : ∀ (ps ps' : List (Nat × Value)) (c : List Value) (c' : Array Value) (r : List Value),
    ps.map (·.1) = ps'.map (·.1) → LRel γ (ps.map (·.2)) (ps'.map (·.2)) → LRel γ c c'.toList → fillL place c ps = some r →
    ∃ r', Instr.fill place c' ps' = some r' ∧ LRel γ r r'.toList
  | [], [], c, c', r, _, _, hc, h => by simp [fillL] at h; subst h; exact ⟨c', rfl, hc⟩
  | [], p :: ps', _, _, _, h, _, _, _ => by simp at h
  | p :: ps, [], _, _, _, h, _, _, _ => by simp at h
  | (i, v) :: ps, (i', v') :: ps', c, c', r, hi, hv, hc, h => by
    simp only [List.map_cons, List.cons.injEq] at hi
    obtain ⟨rfl, hi⟩ := hi
    have hv0 : VRel γ v v' := by simpa using hv.2 0 (by simp) (by simp)
    have hvs : LRel γ (ps.map (·.2)) (ps'.map (·.2)) := by simpa using hv.drop 1
    have hcl := hv0.cells
    simp only [fillL] at h
    cases hp : place i with
    | none => simp [hp] at h
    | some q =>
      obtain ⟨off, size⟩ := q
      simp only [hp] at h
      cases h1 : Nat.beq v.cells.toList.length size with
      | false => simp only [h1, cond] at h; cases h
      | true =>
        cases h2 : Nat.ble (off + size) c.length with
        | false => simp only [h1, h2, cond] at h; cases h
        | true =>
          simp only [h1, h2, cond] at h
          have e1 : v.cells.toList.length = size := Nat.eq_of_beq_eq_true h1
          have e2 : off + size ≤ c.length := Nat.le_of_ble_eq_true h2
          have e1' : v'.cells.size = size := by rw [← e1, hcl.1]; simp
          have e2' : off + size ≤ c'.size := by have := hc.1; simp at this; omega
          have seg := foldl_seg off v'.cells.toList 0 c' (by simp; omega)
          have hseg : (v'.cells.zipIdx.foldl (fun cs (x : Value × Nat) => cs.setIfInBounds (off + x.2) x.1) c').toList = c'.toList.take off ++ v'.cells.toList ++ c'.toList.drop (off + size) := by
            rw [← Array.foldl_toList, Array.toList_zipIdx]
            simpa [e1'] using seg
          obtain ⟨r', hr', hrel⟩ := fill_rel place ps ps' _ (v'.cells.zipIdx.foldl (fun cs (x : Value × Nat) => cs.setIfInBounds (off + x.2) x.1) c') r hi hvs
            (by rw [hseg]; exact ((hc.take _).append hcl).append (hc.drop _)) h
          refine ⟨r', ?_, hrel⟩
          have n1 : ¬ (v'.cells.size ≠ size) := by simp [e1']
          have n2 : ¬ (off + v'.cells.size > c'.size) := by rw [e1']; omega
          have nb : (decide (v'.cells.size ≠ size) || decide (off + v'.cells.size > c'.size)) = false := by simp [e1']; omega
          simp only [Instr.fill, hp, nb]
          exact hr'
end Go.Ev
