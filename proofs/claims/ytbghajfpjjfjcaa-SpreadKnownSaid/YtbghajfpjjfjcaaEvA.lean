/- An evaluator of closed Go code, part 1: tries, values by names of blocks, what a heap of names says of a world. -/
import Derived.RangeFuncLeaves
import Derived.OrdersIn
import Derived.Below
set_option linter.unusedSimpArgs false
set_option linter.unusedVariables false
namespace Go.Ev
open Go Go.RowKit

inductive PT (α : Type) where
  | nil
  | leaf (a : α)
  | node (l r : PT α)

def PT.get {α : Type} (d : Nat) : PT α → Nat → Option α :=
  Nat.rec (motive := fun _ => PT α → Nat → Option α) (fun t _ => match t with
      | .leaf a => some a
      | _ => none)
    (fun _ ih t n => match t with
      | .node l r => cond (Nat.beq (n % 2) 0) (ih l (n / 2)) (ih r (n / 2))
      | _ => none) d

def PT.set {α : Type} : Nat → PT α → Nat → α → PT α
  | 0, _, _, a => .leaf a
  | d + 1, .node l r, n, a => cond (Nat.beq (n % 2) 0) (.node (PT.set d l (n / 2) a) r) (.node l (PT.set d r (n / 2) a))
  | d + 1, _, n, a => cond (Nat.beq (n % 2) 0) (.node (PT.set d .nil (n / 2) a) .nil) (.node .nil (PT.set d .nil (n / 2) a))

/-- 'set', strict: what it makes is made before the rest goes on. -/
def PT.setK {α β : Type} (d : Nat) : PT α → Nat → α → (PT α → β) → β :=
  Nat.rec (motive := fun _ => PT α → Nat → α → (PT α → β) → β) (fun _ _ a k => k (.leaf a))
    (fun _ ih t n a k => match t with
      | .node l r => cond (Nat.beq (n % 2) 0) (ih l (n / 2) a fun l' => k (.node l' r)) (ih r (n / 2) a fun r' => k (.node l r'))
      | _ => cond (Nat.beq (n % 2) 0) (ih .nil (n / 2) a fun l' => k (.node l' .nil)) (ih .nil (n / 2) a fun r' => k (.node .nil r'))) d

theorem PT.get_leaf0 {α : Type} (a : α) (n : Nat) : PT.get 0 (.leaf a) n = some a := rfl
theorem PT.get_nil0 {α : Type} (n : Nat) : PT.get 0 (.nil : PT α) n = none := rfl
theorem PT.get_node0 {α : Type} (l r : PT α) (n : Nat) : PT.get 0 (.node l r) n = none := rfl
theorem PT.get_nils {α : Type} (d n : Nat) : PT.get (d + 1) (.nil : PT α) n = none := rfl
theorem PT.get_leafs {α : Type} (d : Nat) (a : α) (n : Nat) : PT.get (d + 1) (.leaf a) n = none := rfl
theorem PT.get_nodes {α : Type} (d : Nat) (l r : PT α) (n : Nat) : PT.get (d + 1) (.node l r) n = cond (Nat.beq (n % 2) 0) (PT.get d l (n / 2)) (PT.get d r (n / 2)) := rfl

theorem PT.setK_eq {α β : Type} : ∀ (d : Nat) (t : PT α) (n : Nat) (a : α) (k : PT α → β), PT.setK d t n a k = k (PT.set d t n a) := by
  intro d
  induction d with
  | zero => intro t n a k; cases t <;> rfl
  | succ d ih =>
    intro t n a k
    cases t with
    | nil =>
      show cond (Nat.beq (n % 2) 0) (PT.setK d .nil (n / 2) a fun l' => k (.node l' .nil)) (PT.setK d .nil (n / 2) a fun r' => k (.node .nil r')) = _
      rw [ih, ih]
      simp only [PT.set]
      cases Nat.beq (n % 2) 0 <;> rfl
    | leaf b =>
      show cond (Nat.beq (n % 2) 0) (PT.setK d .nil (n / 2) a fun l' => k (.node l' .nil)) (PT.setK d .nil (n / 2) a fun r' => k (.node .nil r')) = _
      rw [ih, ih]
      simp only [PT.set]
      cases Nat.beq (n % 2) 0 <;> rfl
    | node l r =>
      show cond (Nat.beq (n % 2) 0) (PT.setK d l (n / 2) a fun l' => k (.node l' r)) (PT.setK d r (n / 2) a fun r' => k (.node l r')) = _
      rw [ih, ih]
      simp only [PT.set]
      cases Nat.beq (n % 2) 0 <;> rfl

theorem PT.get_nil {α : Type} (d n : Nat) : PT.get d (.nil : PT α) n = none := by cases d <;> rfl

theorem beq_decide (a b : Nat) : Nat.beq a b = decide (a = b) := by
  cases h : Nat.beq a b with
  | true => have := Nat.eq_of_beq_eq_true h; simp [this]
  | false => have := Nat.ne_of_beq_eq_false h; simp [this]

theorem PT.get_set {α : Type} : ∀ (d : Nat) (t : PT α) (n m : Nat) (a : α), n < 2 ^ d → m < 2 ^ d →
    PT.get d (PT.set d t n a) m = if m = n then some a else PT.get d t m := by
  intro d
  induction d with
  | zero => intro t n m a hn hm; have : m = n := by simp at hn hm; omega
            subst this; cases t <;> simp [PT.set, PT.get_leaf0]
  | succ d ih =>
    intro t n m a hn hm
    have hn' : n / 2 < 2 ^ d := by rw [Nat.pow_succ] at hn; omega
    have hm' : m / 2 < 2 ^ d := by rw [Nat.pow_succ] at hm; omega
    rcases Nat.mod_two_eq_zero_or_one n with h0 | h0 <;> rcases Nat.mod_two_eq_zero_or_one m with h1 | h1
    · have e : (m / 2 = n / 2) ↔ (m = n) := by omega
      cases t <;> simp [PT.set, PT.get_nodes, PT.get_nils, PT.get_leafs, h0, h1, beq_decide, ih _ _ _ _ hn' hm', e, PT.get_nil]
    · have e : ¬ (m = n) := by omega
      cases t <;> simp [PT.set, PT.get_nodes, PT.get_nils, PT.get_leafs, h0, h1, beq_decide, e, PT.get_nil]
    · have e : ¬ (m = n) := by omega
      cases t <;> simp [PT.set, PT.get_nodes, PT.get_nils, PT.get_leafs, h0, h1, beq_decide, e, PT.get_nil]
    · have e : (m / 2 = n / 2) ↔ (m = n) := by omega
      cases t <;> simp [PT.set, PT.get_nodes, PT.get_nils, PT.get_leafs, h0, h1, beq_decide, ih _ _ _ _ hn' hm', e, PT.get_nil]

/-- Which block a name means, where its first known cell is, and how many elements a slice from there on has room for. -/
abbrev Gam := Nat → Option (Nat × Nat × Nat)

def openCap : Nat := 2 ^ 63
def capOf (C c : Nat) : Nat := if c < openCap then c else C - (c - openCap)

/-- What symbols stand for (values of one cell), and which blocks nobody writes to. -/
class Rho where
  val : Nat → Value
  one' : ∀ s, (val s).oneCell' = true
  mem : Nat → Option Obj
  lst : Nat → List Value

variable [Rho]
theorem Rho.one (s : Nat) : (Rho.val s).cells = #[Rho.val s] := by
  have := Rho.one' s
  cases h : Rho.val s <;> rw [h] at this <;> first | rfl | cases this

inductive VRel (γ : Gam) : Value → Value → Prop
  | sym (s : Nat) : VRel γ (.chan (some s)) (Rho.val s)
  | bool (b : Bool) : VRel γ (.bool b) (.bool b)
  | int (k : IntKind) (n : Int) : VRel γ (.int k n) (.int k n)
  | float (k : FloatKind) (n : Nat) : VRel γ (.float k n) (.float k n)
  | complex (k : FloatKind) (m n : Nat) : VRel γ (.complex k m n) (.complex k m n)
  | string (s : ByteArray) : VRel γ (.string s) (.string s)
  | nilptr : VRel γ (.pointer none) (.pointer none)
  | ptr {b B O C : Nat} (o : Nat) (h : γ b = some (B, O, C)) : VRel γ (.pointer (some ⟨b, o, none⟩)) (.pointer (some ⟨B, O + o, none⟩))
  | nilslice (n c : Nat) : VRel γ (.slice none n c) (.slice none n c)
  | slice {b B O C : Nat} (o n c : Nat) (h : γ b = some (B, O, C)) (hn : n ≤ capOf C c) : VRel γ (.slice (some ⟨b, o, none⟩) n c) (.slice (some ⟨B, O + o, none⟩) n (capOf C c))
  | slicee (a : Addr) (c : Nat) : VRel γ (.slice (some ⟨0, 0, some 1⟩) 0 0) (.slice (some a) 0 c)
  | nilmap : VRel γ (.map none) (.map none)
  | map {b B O C : Nat} (h : γ b = some (B, O, C)) : VRel γ (.map (some b)) (.map (some B))
  | nilchan : VRel γ (.chan none) (.chan none)
  | func (fn : Fn) (hf : ∀ l, fn ≠ .yield l) (f f' c c' : Array Value) (hs : f.size = f'.size) (h : ∀ i (h1 : i < f.size) (h2 : i < f'.size), VRel γ f[i] f'[i])
      (gs : c.size = c'.size) (g : ∀ i (h1 : i < c.size) (h2 : i < c'.size), VRel γ c[i] c'[i]) : VRel γ (.func fn f c) (.func fn f' c')
  | yield {b B O C : Nat} (h : γ b = some (B, O, C)) : VRel γ (.func (.yield b) #[] #[]) (.func (.yield B) #[] #[])
  | lsl {id B O C : Nat} (s n : Nat) (h : γ id = some (B, O, C)) (hs : Rho.val s = .int .i64 n) (hn : n ≤ C) : VRel γ (.pointer (some ⟨id, s, some 2⟩)) (.slice (some ⟨B, O, none⟩) n C)
  | lsn (id s : Nat) (hs : Rho.val s = .int .i64 0) : VRel γ (.pointer (some ⟨id, s, some 2⟩)) (.slice none 0 0)
  | lsp {id B O C : Nat} (r m : Nat) (h : γ id = some (B, O, C)) (hr : Rho.val r = .int .i64 m) : VRel γ (.pointer (some ⟨id, r, some 3⟩)) (.pointer (some ⟨B, O + m, none⟩))
  | nilfunc : VRel γ .nilFunc .nilFunc
  | iface (t : TypeId) {v v' : Value} (h : VRel γ v v') : VRel γ (.iface t v) (.iface t v')
  | niliface : VRel γ .nilIface .nilIface
  | agg (f f' : Array Value) (hs : f.size = f'.size) (h : ∀ i (h1 : i < f.size) (h2 : i < f'.size), VRel γ f[i] f'[i]) : VRel γ (.agg f) (.agg f')
  | tuple (f f' : Array Value) (hs : f.size = f'.size) (h : ∀ i (h1 : i < f.size) (h2 : i < f'.size), VRel γ f[i] f'[i]) : VRel γ (.tuple f) (.tuple f')

def ARel (γ : Gam) (a b : Array Value) : Prop := a.size = b.size ∧ ∀ i (h1 : i < a.size) (h2 : i < b.size), VRel γ a[i] b[i]

def Gam.le (γ γ' : Gam) : Prop := ∀ id x, γ id = some x → γ' id = some x
omit [Rho] in
theorem Gam.le_refl (γ : Gam) : γ.le γ := fun _ _ h => h
omit [Rho] in
theorem Gam.le_trans {a b c : Gam} (h : a.le b) (k : b.le c) : a.le c := fun i x e => k i x (h i x e)

theorem VRel.mono {γ γ' : Gam} (hg : γ.le γ') {v v' : Value} (h : VRel γ v v') : VRel γ' v v' := by
  induction h with
  | sym s => exact .sym s
  | bool b => exact .bool b
  | int k n => exact .int k n
  | float k n => exact .float k n
  | complex k m n => exact .complex k m n
  | string s => exact .string s
  | nilptr => exact .nilptr
  | ptr o h => exact .ptr o (hg _ _ h)
  | nilslice n c => exact .nilslice n c
  | slice o n c h hn => exact .slice o n c (hg _ _ h) hn
  | slicee a c => exact .slicee a c
  | nilmap => exact .nilmap
  | map h => exact .map (hg _ _ h)
  | nilchan => exact .nilchan
  | func fn hf f f' c c' hs _ gs _ ih jh => exact .func fn hf f f' c c' hs ih gs jh
  | yield h => exact .yield (hg _ _ h)
  | lsl s n h hs hn => exact .lsl s n (hg _ _ h) hs hn
  | lsn id s hs => exact .lsn id s hs
  | lsp r m h hr => exact .lsp r m (hg _ _ h) hr
  | nilfunc => exact .nilfunc
  | iface t _ ih => exact .iface t ih
  | niliface => exact .niliface
  | agg f f' hs _ ih => exact .agg f f' hs ih
  | tuple f f' hs _ ih => exact .tuple f f' hs ih

theorem ARel.mono {γ γ' : Gam} (hg : γ.le γ') {a b : Array Value} (h : ARel γ a b) : ARel γ' a b := ⟨h.1, fun i h1 h2 => (h.2 i h1 h2).mono hg⟩

def isYield : Fn → Bool
  | .yield _ => true
  | _ => false

def plain : Nat → Value → Bool
  | 0, _ => false
  | n + 1, v => match v with
    | .bool _ | .int _ _ | .float _ _ | .complex _ _ _ | .string _ | .pointer none | .slice none _ _ | .map none | .nilFunc | .nilIface => true
    | .agg cs | .tuple cs => cs.toList.all (plain n)
    | .iface _ v => plain n v
    | .func fn f c => cond (isYield fn) false (cond (f.toList.all (plain n)) (c.toList.all (plain n)) false)
    | _ => false

omit [Rho] in
theorem all_at {p : Value → Bool} {a : Array Value} (h : a.toList.all p = true) (i : Nat) (h1 : i < a.size) : p a[i] = true :=
  List.all_eq_true.1 h _ (by simp)

theorem plain_rel (γ : Gam) : ∀ (n : Nat) (v : Value), plain n v = true → VRel γ v v := by
  intro n
  induction n with
  | zero => intro v h; simp [plain] at h
  | succ n ih =>
    intro v h
    cases v with
    | bool b => exact .bool b
    | int k n => exact .int k n
    | float k b => exact .float k b
    | complex k a b => exact .complex k a b
    | string s => exact .string s
    | pointer a => cases a with
      | none => exact .nilptr
      | some a => simp [plain] at h
    | slice a l c => cases a with
      | none => exact .nilslice l c
      | some a => simp [plain] at h
    | map r => cases r with
      | none => exact .nilmap
      | some a => simp [plain] at h
    | chan r => simp [plain] at h
    | func fn f c =>
      cases hy : isYield fn with
      | true => simp [plain, hy] at h
      | false =>
        cases hf : f.toList.all (plain n) with
        | false => simp only [plain, hy, hf, cond] at h; cases h
        | true =>
          have hc : c.toList.all (plain n) = true := by simpa only [plain, hy, hf, cond] using h
          exact .func fn (fun l e => by subst e; simp [isYield] at hy) f f c c rfl (fun i h1 _ => ih _ (all_at hf i h1)) rfl (fun i h1 _ => ih _ (all_at hc i h1))
    | nilFunc => exact .nilfunc
    | iface t v => exact .iface t (ih v (by simpa only [plain] using h))
    | nilIface => exact .niliface
    | agg cs => exact .agg cs cs rfl (fun i h1 _ => ih _ (all_at (by simpa only [plain] using h) i h1))
    | tuple cs => exact .tuple cs cs rfl (fun i h1 _ => ih _ (all_at (by simpa only [plain] using h) i h1))

theorem plain_eq (γ : Gam) : ∀ (n : Nat) (v v' : Value), plain n v = true → VRel γ v v' → v' = v := by
  intro n
  induction n with
  | zero => intro v v' h; simp [plain] at h
  | succ n ih =>
    intro v v' h hr
    have arr : ∀ (f f' : Array Value), f.size = f'.size → (∀ i (h1 : i < f.size) (h2 : i < f'.size), VRel γ f[i] f'[i]) → f.toList.all (plain n) = true → f' = f := by
      intro f f' hs hv ha
      apply Array.ext hs.symm
      intro i h1 h2
      exact ih _ _ (all_at ha i h2) (hv i h2 h1)
    cases hr with
    | bool | int | float | complex | string | nilptr | nilslice | nilmap | nilchan | nilfunc | niliface => rfl
    | sym s => simp [plain] at h
    | ptr o _ => simp [plain] at h
    | slice o _ _ _ _ => simp [plain] at h
    | slicee a c => simp [plain] at h
    | map _ => simp [plain] at h
    | yield _ => simp [plain, isYield] at h
    | lsl _ _ _ _ _ => simp [plain] at h
    | lsn _ _ _ => simp [plain] at h
    | lsp _ _ _ _ => simp [plain] at h
    | func fn hf f f' c c' hs hv gs gv =>
      cases hy : isYield fn with
      | true => simp [plain, hy] at h
      | false =>
        cases hf2 : f.toList.all (plain n) with
        | false => simp only [plain, hy, hf2, cond] at h; cases h
        | true =>
          have hc : c.toList.all (plain n) = true := by simpa only [plain, hy, hf2, cond] using h
          rw [arr f f' hs hv hf2, arr c c' gs gv hc]
    | iface t hv => rw [ih _ _ (by simpa only [plain] using h) hv]
    | agg f f' hs hv => rw [arr f f' hs hv (by simpa only [plain] using h)]
    | tuple f f' hs hv => rw [arr f f' hs hv (by simpa only [plain] using h)]

/-- The temporaries of an activation: how many there are, and how deep their trie is. -/
structure Tm where
  t : PT Value
  n : Nat
  d : Nat

/-- What a name stands for. -/
inductive AB where
  | dead
  | cells (c : List Value) (t : TypeId) (room : Option Nat) (ro : Bool)
  | loop (state : LoopState) (pend : Option Code) (T : Tm) (params : Array Tmp) (assign body : Code) (mark : Nat)
  | mark
  | map (es : List MapEntry) (clock : Nat)
  | lst (k : Nat) (t : TypeId) (sz : Nat)

def AB.alive : AB → Bool
  | .dead => false
  | _ => true

def AB.own : AB → Bool
  | .dead => false
  | .cells _ _ _ ro => !ro
  | _ => true

omit [Rho] in
theorem AB.alive_of_own {b : AB} (h : b.own = true) : b.alive = true := by cases b <;> simp_all [AB.own, AB.alive]

def tget (T : Tm) (i : Nat) : Option Value := match T with
  | ⟨t, n, d⟩ => cond (Nat.blt i n) (PT.get d t i) none

def TRel (γ : Gam) (T : Tm) (n : Nat) (tmps : Array Value) : Prop :=
  tmps.size = n ∧ T.n = n ∧ n ≤ 2 ^ T.d ∧ ∀ t v, tget T t = some v → VRel γ v (tmps.getD t undef)

def SatB (γ : Gam) (w : World) (id : Nat) : AB → Prop
  | .dead => True
  | .cells c t room _ => ∃ B O C arr, γ id = some (B, O, C) ∧ w.heap[B]? = some (.cells arr t (0, 0)) ∧
      O + c.length ≤ arr.size ∧
      (∀ i (h : i < c.length), ∃ v', arr[O + i]? = some v' ∧ VRel γ c[i] v') ∧ (∀ sz, room = some sz → O + C * sz ≤ arr.size ∧ c.length ≤ C * sz)
  | .loop state pend T params assign body mk => ∃ B O C fn tmps D O' C', γ id = some (B, O, C) ∧ γ mk = some (D, O', C') ∧
      w.heap[B]? = some (.loop { state := state, pending := pend, fn := fn, tmps := tmps, params := params, assign := assign, body := body, defers := D }) ∧ TRel γ T T.n tmps
  | .mark => ∃ B O C, γ id = some (B, O, C) ∧ w.heap[B]? = some (.deferred (some []))
  | .map es clock => ∃ B O C es', γ id = some (B, O, C) ∧ w.heap[B]? = some (.map es' clock) ∧ es'.size = es.length ∧
      ∀ i (h : i < es.length) (h' : i < es'.size), VRel γ es[i].key es'[i].key ∧ VRel γ es[i].val es'[i].val ∧ es[i].born = es'[i].born
  | .lst k t sz => (Rho.lst k = [] ∧ γ id = none) ∨ ∃ B O C arr, γ id = some (B, O, C) ∧ w.heap[B]? = some (.cells arr t (0, 0)) ∧ O + C * sz ≤ arr.size ∧ (Rho.lst k).length ≤ C * sz ∧
      ∀ i (h : i < (Rho.lst k).length), arr[O + i]? = some (Rho.lst k)[i]

abbrev Hp := Nat → AB

def Own (γ : Gam) (h : Hp) (B : Nat) : Prop := ∃ id O C, (h id).own = true ∧ γ id = some (B, O, C)
/-- What nobody writes to is as it was. -/
def MemOk (w : World) : Prop := ∀ B o, Rho.mem B = some o → w.heap[B]? = some o
def Frz (γ : Gam) (h : Hp) (w : World) : Prop := ∀ B o, Rho.mem B = some o → w.heap[B]? = some o ∧ ¬ Own γ h B
theorem Frz.ok {γ : Gam} {h : Hp} {w : World} (hf : Frz γ h w) : MemOk w := fun B o e => (hf B o e).1
theorem Frz.step {γ γ' : Gam} {h h' : Hp} {w w' : World} (hf : Frz γ h w) (fr : ∀ B, B < w.heap.size → ¬ Own γ h B → w'.heap[B]? = w.heap[B]?) (own : ∀ B, Own γ' h' B → Own γ h B ∨ w.heap.size ≤ B) : Frz γ' h' w' := fun B o e => by
  obtain ⟨h1, h2⟩ := hf B o e
  have hB : B < w.heap.size := by
    rcases Nat.lt_or_ge B w.heap.size with h | h
    · exact h
    · simp [Array.getElem?_eq_none h] at h1
  refine ⟨by rw [fr B hB h2]; exact h1, fun ho => ?_⟩
  rcases own B ho with h | h
  · exact h2 h
  · omega

structure Sat (γ : Gam) (h : Hp) (w : World) : Prop where
  blk : ∀ id, SatB γ w id (h id)
  frz : Frz γ h w
  inj : ∀ i j B O C O' C', (h i).alive = true → (h j).alive = true → γ i = some (B, O, C) → γ j = some (B, O', C') → i = j

theorem TRel.mono {γ γ' : Gam} (hg : γ.le γ') {T : Tm} {n : Nat} {a : Array Value} (h : TRel γ T n a) : TRel γ' T n a := ⟨h.1, h.2.1, h.2.2.1, fun t v e => (h.2.2.2 t v e).mono hg⟩

/-- What holds of a block goes on to hold while the block is as it was. -/
theorem SatB.keep {γ γ' : Gam} {w w' : World} {id : Nat} {b : AB} (hg : γ.le γ') (hn : γ id = none → γ' id = none) (h : SatB γ w id b)
    (hb : ∀ B O C, b.alive = true → γ id = some (B, O, C) → w'.heap[B]? = w.heap[B]?) : SatB γ' w' id b := by
  cases b with
  | dead => trivial
  | cells c t room ro =>
    obtain ⟨B, O, C, arr, h1, h2, h0, h3, h4⟩ := h
    exact ⟨B, O, C, arr, hg _ _ h1, by rw [hb B O C rfl h1]; exact h2, h0, fun i hi => let ⟨v', e, r⟩ := h3 i hi; ⟨v', e, r.mono hg⟩, h4⟩
  | loop state pend T params assign body mk =>
    obtain ⟨B, O, C, fn, tmps, D, O', C', h1, h2, h3, h4⟩ := h
    exact ⟨B, O, C, fn, tmps, D, O', C', hg _ _ h1, hg _ _ h2, by rw [hb B O C rfl h1]; exact h3, h4.mono hg⟩
  | mark =>
    obtain ⟨B, O, C, h1, h2⟩ := h
    exact ⟨B, O, C, hg _ _ h1, by rw [hb B O C rfl h1]; exact h2⟩
  | map es clock =>
    obtain ⟨B, O, C, es', h1, h2, h3, h4⟩ := h
    exact ⟨B, O, C, es', hg _ _ h1, by rw [hb B O C rfl h1]; exact h2, h3, fun i hi hi' => let ⟨a, b, c⟩ := h4 i hi hi'; ⟨a.mono hg, b.mono hg, c⟩⟩
  | lst k t sz =>
    rcases h with ⟨h1, h2⟩ | ⟨B, O, C, arr, h1, h2, h3⟩
    · exact .inl ⟨h1, hn h2⟩
    · exact .inr ⟨B, O, C, arr, hg _ _ h1, by rw [hb B O C rfl h1]; exact h2, h3⟩

theorem SatB.at {γ : Gam} {w : World} {id : Nat} {b : AB} (h : SatB γ w id b) (ha : b.alive = true) : ∀ B O C, γ id = some (B, O, C) → B < w.heap.size := by
  intro B1 O1 C1 hq
  have key : ∀ {B : Nat} {o : Obj}, w.heap[B]? = some o → B < w.heap.size := fun {B o} e => by
    rcases Nat.lt_or_ge B w.heap.size with h | h
    · exact h
    · simp [Array.getElem?_eq_none h] at e
  cases b with
  | dead => cases ha
  | cells c t room ro => obtain ⟨B, O, C, arr, h1, h2, _⟩ := h; rw [hq] at h1; cases h1; exact key h2
  | loop state pend T params assign body mk => obtain ⟨B, O, C, fn, tmps, D, O', C', h1, h2, h3, h4⟩ := h; rw [hq] at h1; cases h1; exact key h3
  | mark => obtain ⟨B, O, C, h1, h2⟩ := h; rw [hq] at h1; cases h1; exact key h2
  | map es clock => obtain ⟨B, O, C, es', h1, h2, _⟩ := h; rw [hq] at h1; cases h1; exact key h2
  | lst k t sz =>
    rcases h with ⟨h1, h2⟩ | ⟨B, O, C, arr, h1, h2, h3⟩
    · rw [hq] at h2; cases h2
    · rw [hq] at h1; cases h1; exact key h2

/-- One step of the world, and of what its names say. -/
structure Step (lo hi : Nat) (γ : Gam) (h : Hp) (w : World) (γ' : Gam) (h' : Hp) (w' : World) : Prop where
  le : γ.le γ'
  dom : ∀ id, γ id = none → γ' id ≠ none → lo ≤ id ∧ id < hi
  size : w.heap.size ≤ w'.heap.size
  frame : ∀ B, B < w.heap.size → ¬ Own γ h B → w'.heap[B]? = w.heap[B]?
  own : ∀ B, Own γ' h' B → Own γ h B ∨ w.heap.size ≤ B
  sat : Sat γ' h' w'
  os : w'.os = w.os
  tape : w'.tape = w.tape
  output : w'.output = w.output
  ro : ∀ id, (h' id).alive = true → (h' id).own = false → h' id = h id

structure Sat0 (γ : Gam) (h : Hp) (w : World) : Prop where
  blk : ∀ id, SatB γ w id (h id)
  inj : ∀ i j B O C O' C', (h i).alive = true → (h j).alive = true → γ i = some (B, O, C) → γ j = some (B, O', C') → i = j

/-- The same, but for what nobody writes to. -/
structure Step0 (lo hi : Nat) (γ : Gam) (h : Hp) (w : World) (γ' : Gam) (h' : Hp) (w' : World) : Prop where
  le : γ.le γ'
  dom : ∀ id, γ id = none → γ' id ≠ none → lo ≤ id ∧ id < hi
  size : w.heap.size ≤ w'.heap.size
  frame : ∀ B, B < w.heap.size → ¬ Own γ h B → w'.heap[B]? = w.heap[B]?
  own : ∀ B, Own γ' h' B → Own γ h B ∨ w.heap.size ≤ B
  sat : Sat0 γ' h' w'
  os : w'.os = w.os
  tape : w'.tape = w.tape
  output : w'.output = w.output
  ro : ∀ id, (h' id).alive = true → (h' id).own = false → h' id = h id

theorem Step0.up {lo hi : Nat} {γ : Gam} {h : Hp} {w : World} {γ' : Gam} {h' : Hp} {w' : World} (hf : Frz γ h w) (st : Step0 lo hi γ h w γ' h' w') : Step lo hi γ h w γ' h' w' :=
  ⟨st.le, st.dom, st.size, st.frame, st.own, ⟨st.sat.blk, hf.step st.frame st.own, st.sat.inj⟩, st.os, st.tape, st.output, st.ro⟩

theorem Step.refl {lo hi : Nat} {γ : Gam} {h : Hp} {w : World} (hs : Sat γ h w) : Step lo hi γ h w γ h w :=
  ⟨Gam.le_refl _, fun id a b => absurd a b, Nat.le_refl _, fun _ _ _ => rfl, fun _ h => .inl h, hs, rfl, rfl, rfl, fun _ _ _ => rfl⟩

theorem Step.trans {lo mi hi : Nat} {γ γ₁ γ₂ : Gam} {h h₁ h₂ : Hp} {w w₁ w₂ : World} (hlm : lo ≤ mi) (hmh : mi ≤ hi)
    (a : Step lo mi γ h w γ₁ h₁ w₁) (b : Step mi hi γ₁ h₁ w₁ γ₂ h₂ w₂) : Step lo hi γ h w γ₂ h₂ w₂ := by
  refine ⟨Gam.le_trans a.le b.le, fun id e e2 => ?_, Nat.le_trans a.size b.size, fun B hB ho => ?_, fun B ho => ?_, b.sat, b.os.trans a.os, b.tape.trans a.tape, b.output.trans a.output, fun id h1 h2 => by have e := b.ro id h1 h2; rw [e] at h1 h2 ⊢; exact a.ro id h1 h2⟩
  · by_cases h1 : γ₁ id = none
    · have := b.dom id h1 e2; omega
    · have := a.dom id e h1; omega
  · rw [b.frame B (Nat.lt_of_lt_of_le hB a.size) (fun ho1 => ?_), a.frame B hB ho]
    rcases a.own B ho1 with h | h
    · exact ho h
    · omega
  · rcases b.own B ho with h | h
    · exact a.own B h
    · exact .inr (Nat.le_trans a.size h)

/-- A draw of the order changes nothing that is said. -/
theorem Sat.drew {γ : Gam} {h : Hp} {w : World} (hs : Sat γ h w) (n : Nat) : Sat γ h { w with drawn := n } :=
  ⟨fun id => (hs.blk id).keep (Gam.le_refl _) (fun h => h) (fun _ _ _ _ _ => rfl), fun B o e => hs.frz B o e, hs.inj⟩

omit [Rho] in
theorem Gam.le.trans' {a b c : Gam} (h : a.le b) (k : b.le c) : a.le c := Gam.le_trans h k
end Go.Ev
