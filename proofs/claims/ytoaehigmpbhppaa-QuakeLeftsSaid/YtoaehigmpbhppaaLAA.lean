import Derived.RangeFuncLeaves
import Derived.OrdersIn
import Derived.Below
import Derived.Deep.AppendSrc
import Derived.Deep.MidRow
import Derived.Laws.Tables
import Derived.IntWalk
/-
  Texts of the bench, merged.
-/
set_option linter.unusedSimpArgs false
set_option linter.unusedVariables false
namespace Go.Ev
open Go Go.RowKit
inductive PT (α : Type) where
  | nil
  | leaf (a : α)
  | node (l r : PT α)
def PT.get {α : Type} (d : Nat) : PT α → Nat → Option α :=
  Nat.rec (motive := fun _ => PT α → Nat → Option α) (fun t _ => match t with
      | .leaf a => some a
      | _ => none)
    (fun _ ih t n => match t with
      | .node l r => cond (Nat.beq (n % 2) 0) (ih l (n / 2)) (ih r (n / 2))
      | _ => none) d
def PT.set {α : Type} : Nat → PT α → Nat → α → PT α
  | 0, _, _, a => .leaf a
  | d + 1, .node l r, n, a => cond (Nat.beq (n % 2) 0) (.node (PT.set d l (n / 2) a) r) (.node l (PT.set d r (n / 2) a))
  | d + 1, _, n, a => cond (Nat.beq (n % 2) 0) (.node (PT.set d .nil (n / 2) a) .nil) (.node .nil (PT.set d .nil (n / 2) a))
/-- 'set', strict: what it makes is made before the rest goes on. -/
def PT.setK {α β : Type} (d : Nat) : PT α → Nat → α → (PT α → β) → β :=
  Nat.rec (motive := fun _ => PT α → Nat → α → (PT α → β) → β) (fun _ _ a k => k (.leaf a))
    (fun _ ih t n a k => match t with
      | .node l r => cond (Nat.beq (n % 2) 0) (ih l (n / 2) a fun l' => k (.node l' r)) (ih r (n / 2) a fun r' => k (.node l r'))
      | _ => cond (Nat.beq (n % 2) 0) (ih .nil (n / 2) a fun l' => k (.node l' .nil)) (ih .nil (n / 2) a fun r' => k (.node .nil r'))) d
theorem PT.get_leaf0 {α : Type} (a : α) (n : Nat) : PT.get 0 (.leaf a) n = some a := rfl
theorem PT.get_nil0 {α : Type} (n : Nat) : PT.get 0 (.nil : PT α) n = none := rfl
theorem PT.get_node0 {α : Type} (l r : PT α) (n : Nat) : PT.get 0 (.node l r) n = none := rfl
theorem PT.get_nils {α : Type} (d n : Nat) : PT.get (d + 1) (.nil : PT α) n = none := rfl
theorem PT.get_leafs {α : Type} (d : Nat) (a : α) (n : Nat) : PT.get (d + 1) (.leaf a) n = none := rfl
theorem PT.get_nodes {α : Type} (d : Nat) (l r : PT α) (n : Nat) : PT.get (d + 1) (.node l r) n = cond (Nat.beq (n % 2) 0) (PT.get d l (n / 2)) (PT.get d r (n / 2)) := rfl
theorem PT.setK_eq {α β : Type} : ∀ (d : Nat) (t : PT α) (n : Nat) (a : α) (k : PT α → β), PT.setK d t n a k = k (PT.set d t n a) := by
  intro d
  induction d with
  | zero => intro t n a k; cases t <;> rfl
  | succ d ih =>
    intro t n a k
    cases t with
    | nil =>
      show cond (Nat.beq (n % 2) 0) (PT.setK d .nil (n / 2) a fun l' => k (.node l' .nil)) (PT.setK d .nil (n / 2) a fun r' => k (.node .nil r')) = _
      rw [ih, ih]
      simp only [PT.set]
      cases Nat.beq (n % 2) 0 <;> rfl
    | leaf b =>
      show cond (Nat.beq (n % 2) 0) (PT.setK d .nil (n / 2) a fun l' => k (.node l' .nil)) (PT.setK d .nil (n / 2) a fun r' => k (.node .nil r')) = _
      rw [ih, ih]
      simp only [PT.set]
      cases Nat.beq (n % 2) 0 <;> rfl
    | node l r =>
      show cond (Nat.beq (n % 2) 0) (PT.setK d l (n / 2) a fun l' => k (.node l' r)) (PT.setK d r (n / 2) a fun r' => k (.node l r')) = _
      rw [ih, ih]
      simp only [PT.set]
      cases Nat.beq (n % 2) 0 <;> rfl
theorem PT.get_nil {α : Type} (d n : Nat) : PT.get d (.nil : PT α) n = none := by cases d <;> rfl
theorem beq_decide (a b : Nat) : Nat.beq a b = decide (a = b) := by
  cases h : Nat.beq a b with
  | true => have := Nat.eq_of_beq_eq_true h; simp [this]
  | false => have := Nat.ne_of_beq_eq_false h; simp [this]
theorem PT.get_set {α : Type} : ∀ (d : Nat) (t : PT α) (n m : Nat) (a : α), n < 2 ^ d → m < 2 ^ d →
    PT.get d (PT.set d t n a) m = if m = n then some a else PT.get d t m := by
  intro d
  induction d with
  | zero => intro t n m a hn hm; have : m = n := by simp at hn hm; omega
            subst this; cases t <;> simp [PT.set, PT.get_leaf0]
  | succ d ih =>
    intro t n m a hn hm
    have hn' : n / 2 < 2 ^ d := by rw [Nat.pow_succ] at hn; omega
    have hm' : m / 2 < 2 ^ d := by rw [Nat.pow_succ] at hm; omega
    rcases Nat.mod_two_eq_zero_or_one n with h0 | h0 <;> rcases Nat.mod_two_eq_zero_or_one m with h1 | h1
    · have e : (m / 2 = n / 2) ↔ (m = n) := by omega
      cases t <;> simp [PT.set, PT.get_nodes, PT.get_nils, PT.get_leafs, h0, h1, beq_decide, ih _ _ _ _ hn' hm', e, PT.get_nil]
    · have e : ¬ (m = n) := by omega
      cases t <;> simp [PT.set, PT.get_nodes, PT.get_nils, PT.get_leafs, h0, h1, beq_decide, e, PT.get_nil]
    · have e : ¬ (m = n) := by omega
      cases t <;> simp [PT.set, PT.get_nodes, PT.get_nils, PT.get_leafs, h0, h1, beq_decide, e, PT.get_nil]
    · have e : (m / 2 = n / 2) ↔ (m = n) := by omega
      cases t <;> simp [PT.set, PT.get_nodes, PT.get_nils, PT.get_leafs, h0, h1, beq_decide, ih _ _ _ _ hn' hm', e, PT.get_nil]
/-- Which block a name means, where its first known cell is, and how many elements a slice from there on has room for. -/
abbrev Gam := Nat → Option (Nat × Nat × Nat)
def openCap : Nat := 2 ^ 63
def capOf (C c : Nat) : Nat := if c < openCap then c else C - (c - openCap)
/-- What symbols stand for (values of one cell), and which blocks nobody writes to. -/
class Rho where
  val : Nat → Value
  one' : ∀ s, (val s).oneCell' = true
  mem : Nat → Option Obj
  lst : Nat → List Value
variable [Rho]
theorem Rho.one (s : Nat) : (Rho.val s).cells = #[Rho.val s] := by
  have := Rho.one' s
  cases h : Rho.val s <;> rw [h] at this <;> first | rfl | cases this
inductive VRel (γ : Gam) : Value → Value → Prop
  | sym (s : Nat) : VRel γ (.chan (some s)) (Rho.val s)
  | bool (b : Bool) : VRel γ (.bool b) (.bool b)
  | int (k : IntKind) (n : Int) : VRel γ (.int k n) (.int k n)
  | float (k : FloatKind) (n : Nat) : VRel γ (.float k n) (.float k n)
  | complex (k : FloatKind) (m n : Nat) : VRel γ (.complex k m n) (.complex k m n)
  | string (s : ByteArray) : VRel γ (.string s) (.string s)
  | nilptr : VRel γ (.pointer none) (.pointer none)
  | ptr {b B O C : Nat} (o : Nat) (h : γ b = some (B, O, C)) : VRel γ (.pointer (some ⟨b, o, none⟩)) (.pointer (some ⟨B, O + o, none⟩))
  | nilslice (n c : Nat) : VRel γ (.slice none n c) (.slice none n c)
  | slice {b B O C : Nat} (o n c : Nat) (h : γ b = some (B, O, C)) (hn : n ≤ capOf C c) : VRel γ (.slice (some ⟨b, o, none⟩) n c) (.slice (some ⟨B, O + o, none⟩) n (capOf C c))
  | slicee (a : Addr) (c : Nat) : VRel γ (.slice (some ⟨0, 0, some 1⟩) 0 0) (.slice (some a) 0 c)
  | nilmap : VRel γ (.map none) (.map none)
  | map {b B O C : Nat} (h : γ b = some (B, O, C)) : VRel γ (.map (some b)) (.map (some B))
  | nilchan : VRel γ (.chan none) (.chan none)
  | func (fn : Fn) (hf : ∀ l, fn ≠ .yield l) (f f' c c' : Array Value) (hs : f.size = f'.size) (h : ∀ i (h1 : i < f.size) (h2 : i < f'.size), VRel γ f[i] f'[i])
      (gs : c.size = c'.size) (g : ∀ i (h1 : i < c.size) (h2 : i < c'.size), VRel γ c[i] c'[i]) : VRel γ (.func fn f c) (.func fn f' c')
  | yield {b B O C : Nat} (h : γ b = some (B, O, C)) : VRel γ (.func (.yield b) #[] #[]) (.func (.yield B) #[] #[])
  | lsl {id B O C : Nat} (s n : Nat) (h : γ id = some (B, O, C)) (hs : Rho.val s = .int .i64 n) (hn : n ≤ C) : VRel γ (.pointer (some ⟨id, s, some 2⟩)) (.slice (some ⟨B, O, none⟩) n C)
  | lsn (id s : Nat) (hs : Rho.val s = .int .i64 0) : VRel γ (.pointer (some ⟨id, s, some 2⟩)) (.slice none 0 0)
  | lsp {id B O C : Nat} (r m : Nat) (h : γ id = some (B, O, C)) (hr : Rho.val r = .int .i64 m) : VRel γ (.pointer (some ⟨id, r, some 3⟩)) (.pointer (some ⟨B, O + m, none⟩))
  | nilfunc : VRel γ .nilFunc .nilFunc
  | iface (t : TypeId) {v v' : Value} (h : VRel γ v v') : VRel γ (.iface t v) (.iface t v')
  | niliface : VRel γ .nilIface .nilIface
  | agg (f f' : Array Value) (hs : f.size = f'.size) (h : ∀ i (h1 : i < f.size) (h2 : i < f'.size), VRel γ f[i] f'[i]) : VRel γ (.agg f) (.agg f')
  | tuple (f f' : Array Value) (hs : f.size = f'.size) (h : ∀ i (h1 : i < f.size) (h2 : i < f'.size), VRel γ f[i] f'[i]) : VRel γ (.tuple f) (.tuple f')
def ARel (γ : Gam) (a b : Array Value) : Prop := a.size = b.size ∧ ∀ i (h1 : i < a.size) (h2 : i < b.size), VRel γ a[i] b[i]
def Gam.le (γ γ' : Gam) : Prop := ∀ id x, γ id = some x → γ' id = some x
omit [Rho] in
theorem Gam.le_refl (γ : Gam) : γ.le γ := fun _ _ h => h
omit [Rho] in
theorem Gam.le_trans {a b c : Gam} (h : a.le b) (k : b.le c) : a.le c := fun i x e => k i x (h i x e)
theorem VRel.mono {γ γ' : Gam} (hg : γ.le γ') {v v' : Value} (h : VRel γ v v') : VRel γ' v v' := by
  induction h with
  | sym s => exact .sym s
  | bool b => exact .bool b
  | int k n => exact .int k n
  | float k n => exact .float k n
  | complex k m n => exact .complex k m n
  | string s => exact .string s
  | nilptr => exact .nilptr
  | ptr o h => exact .ptr o (hg _ _ h)
  | nilslice n c => exact .nilslice n c
  | slice o n c h hn => exact .slice o n c (hg _ _ h) hn
  | slicee a c => exact .slicee a c
  | nilmap => exact .nilmap
  | map h => exact .map (hg _ _ h)
  | nilchan => exact .nilchan
  | func fn hf f f' c c' hs _ gs _ ih jh => exact .func fn hf f f' c c' hs ih gs jh
  | yield h => exact .yield (hg _ _ h)
  | lsl s n h hs hn => exact .lsl s n (hg _ _ h) hs hn
  | lsn id s hs => exact .lsn id s hs
  | lsp r m h hr => exact .lsp r m (hg _ _ h) hr
  | nilfunc => exact .nilfunc
  | iface t _ ih => exact .iface t ih
  | niliface => exact .niliface
  | agg f f' hs _ ih => exact .agg f f' hs ih
  | tuple f f' hs _ ih => exact .tuple f f' hs ih
theorem ARel.mono {γ γ' : Gam} (hg : γ.le γ') {a b : Array Value} (h : ARel γ a b) : ARel γ' a b := ⟨h.1, fun i h1 h2 => (h.2 i h1 h2).mono hg⟩
def isYield : Fn → Bool
  | .yield _ => true
  | _ => false
def plain : Nat → Value → Bool
  | 0, _ => false
  | n + 1, v => match v with
    | .bool _ | .int _ _ | .float _ _ | .complex _ _ _ | .string _ | .pointer none | .slice none _ _ | .map none | .nilFunc | .nilIface => true
    | .agg cs | .tuple cs => cs.toList.all (plain n)
    | .iface _ v => plain n v
    | .func fn f c => cond (isYield fn) false (cond (f.toList.all (plain n)) (c.toList.all (plain n)) false)
    | _ => false
omit [Rho] in
theorem all_at {p : Value → Bool} {a : Array Value} (h : a.toList.all p = true) (i : Nat) (h1 : i < a.size) : p a[i] = true :=
  List.all_eq_true.1 h _ (by simp)
theorem plain_rel (γ : Gam) : ∀ (n : Nat) (v : Value), plain n v = true → VRel γ v v := by
  intro n
  induction n with
  | zero => intro v h; simp [plain] at h
  | succ n ih =>
    intro v h
    cases v with
    | bool b => exact .bool b
    | int k n => exact .int k n
    | float k b => exact .float k b
    | complex k a b => exact .complex k a b
    | string s => exact .string s
    | pointer a => cases a with
      | none => exact .nilptr
      | some a => simp [plain] at h
    | slice a l c => cases a with
      | none => exact .nilslice l c
      | some a => simp [plain] at h
    | map r => cases r with
      | none => exact .nilmap
      | some a => simp [plain] at h
    | chan r => simp [plain] at h
    | func fn f c =>
      cases hy : isYield fn with
      | true => simp [plain, hy] at h
      | false =>
        cases hf : f.toList.all (plain n) with
        | false => simp only [plain, hy, hf, cond] at h; cases h
        | true =>
          have hc : c.toList.all (plain n) = true := by simpa only [plain, hy, hf, cond] using h
          exact .func fn (fun l e => by subst e; simp [isYield] at hy) f f c c rfl (fun i h1 _ => ih _ (all_at hf i h1)) rfl (fun i h1 _ => ih _ (all_at hc i h1))
    | nilFunc => exact .nilfunc
    | iface t v => exact .iface t (ih v (by simpa only [plain] using h))
    | nilIface => exact .niliface
    | agg cs => exact .agg cs cs rfl (fun i h1 _ => ih _ (all_at (by simpa only [plain] using h) i h1))
    | tuple cs => exact .tuple cs cs rfl (fun i h1 _ => ih _ (all_at (by simpa only [plain] using h) i h1))
theorem plain_eq (γ : Gam) : ∀ (n : Nat) (v v' : Value), plain n v = true → VRel γ v v' → v' = v := by
  intro n
  induction n with
  | zero => intro v v' h; simp [plain] at h
  | succ n ih =>
    intro v v' h hr
    have arr : ∀ (f f' : Array Value), f.size = f'.size → (∀ i (h1 : i < f.size) (h2 : i < f'.size), VRel γ f[i] f'[i]) → f.toList.all (plain n) = true → f' = f := by
      intro f f' hs hv ha
      apply Array.ext hs.symm
      intro i h1 h2
      exact ih _ _ (all_at ha i h2) (hv i h2 h1)
    cases hr with
    | bool | int | float | complex | string | nilptr | nilslice | nilmap | nilchan | nilfunc | niliface => rfl
    | sym s => simp [plain] at h
    | ptr o _ => simp [plain] at h
    | slice o _ _ _ _ => simp [plain] at h
    | slicee a c => simp [plain] at h
    | map _ => simp [plain] at h
    | yield _ => simp [plain, isYield] at h
    | lsl _ _ _ _ _ => simp [plain] at h
    | lsn _ _ _ => simp [plain] at h
    | lsp _ _ _ _ => simp [plain] at h
    | func fn hf f f' c c' hs hv gs gv =>
      cases hy : isYield fn with
      | true => simp [plain, hy] at h
      | false =>
        cases hf2 : f.toList.all (plain n) with
        | false => simp only [plain, hy, hf2, cond] at h; cases h
        | true =>
          have hc : c.toList.all (plain n) = true := by simpa only [plain, hy, hf2, cond] using h
          rw [arr f f' hs hv hf2, arr c c' gs gv hc]
    | iface t hv => rw [ih _ _ (by simpa only [plain] using h) hv]
    | agg f f' hs hv => rw [arr f f' hs hv (by simpa only [plain] using h)]
    | tuple f f' hs hv => rw [arr f f' hs hv (by simpa only [plain] using h)]
/-- The temporaries of an activation: how many there are, and how deep their trie is. -/
structure Tm where
  t : PT Value
  n : Nat
  d : Nat
/-- What a name stands for. -/
inductive AB where
  | dead
  | cells (c : List Value) (t : TypeId) (room : Option Nat) (ro : Bool)
  | loop (state : LoopState) (pend : Option Code) (T : Tm) (params : Array Tmp) (assign body : Code) (mark : Nat)
  | mark
  | map (es : List MapEntry) (clock : Nat)
  | lst (k : Nat) (t : TypeId) (sz : Nat)
def AB.alive : AB → Bool
  | .dead => false
  | _ => true
def AB.own : AB → Bool
  | .dead => false
  | .cells _ _ _ ro => !ro
  | _ => true
omit [Rho] in
theorem AB.alive_of_own {b : AB} (h : b.own = true) : b.alive = true := by cases b <;> simp_all [AB.own, AB.alive]
def tget (T : Tm) (i : Nat) : Option Value := match T with
  | ⟨t, n, d⟩ => cond (Nat.blt i n) (PT.get d t i) none
def TRel (γ : Gam) (T : Tm) (n : Nat) (tmps : Array Value) : Prop :=
  tmps.size = n ∧ T.n = n ∧ n ≤ 2 ^ T.d ∧ ∀ t v, tget T t = some v → VRel γ v (tmps.getD t undef)
def SatB (γ : Gam) (w : World) (id : Nat) : AB → Prop
  | .dead => True
  | .cells c t room _ => ∃ B O C arr, γ id = some (B, O, C) ∧ w.heap[B]? = some (.cells arr t (0, 0)) ∧
      O + c.length ≤ arr.size ∧
      (∀ i (h : i < c.length), ∃ v', arr[O + i]? = some v' ∧ VRel γ c[i] v') ∧ (∀ sz, room = some sz → O + C * sz ≤ arr.size ∧ c.length ≤ C * sz)
  | .loop state pend T params assign body mk => ∃ B O C fn tmps D O' C', γ id = some (B, O, C) ∧ γ mk = some (D, O', C') ∧
      w.heap[B]? = some (.loop { state := state, pending := pend, fn := fn, tmps := tmps, params := params, assign := assign, body := body, defers := D }) ∧ TRel γ T T.n tmps
  | .mark => ∃ B O C, γ id = some (B, O, C) ∧ w.heap[B]? = some (.deferred (some []))
  | .map es clock => ∃ B O C es', γ id = some (B, O, C) ∧ w.heap[B]? = some (.map es' clock) ∧ es'.size = es.length ∧
      ∀ i (h : i < es.length) (h' : i < es'.size), VRel γ es[i].key es'[i].key ∧ VRel γ es[i].val es'[i].val ∧ es[i].born = es'[i].born
  | .lst k t sz => (Rho.lst k = [] ∧ γ id = none) ∨ ∃ B O C arr, γ id = some (B, O, C) ∧ w.heap[B]? = some (.cells arr t (0, 0)) ∧ O + C * sz ≤ arr.size ∧ (Rho.lst k).length ≤ C * sz ∧
      ∀ i (h : i < (Rho.lst k).length), arr[O + i]? = some (Rho.lst k)[i]
abbrev Hp := Nat → AB
def Own (γ : Gam) (h : Hp) (B : Nat) : Prop := ∃ id O C, (h id).own = true ∧ γ id = some (B, O, C)
/-- What nobody writes to is as it was. -/
def MemOk (w : World) : Prop := ∀ B o, Rho.mem B = some o → w.heap[B]? = some o
def Frz (γ : Gam) (h : Hp) (w : World) : Prop := ∀ B o, Rho.mem B = some o → w.heap[B]? = some o ∧ ¬ Own γ h B
theorem Frz.ok {γ : Gam} {h : Hp} {w : World} (hf : Frz γ h w) : MemOk w := fun B o e => (hf B o e).1
theorem Frz.step {γ γ' : Gam} {h h' : Hp} {w w' : World} (hf : Frz γ h w) (fr : ∀ B, B < w.heap.size → ¬ Own γ h B → w'.heap[B]? = w.heap[B]?) (own : ∀ B, Own γ' h' B → Own γ h B ∨ w.heap.size ≤ B) : Frz γ' h' w' := fun B o e => by
  obtain ⟨h1, h2⟩ := hf B o e
  have hB : B < w.heap.size := by
    rcases Nat.lt_or_ge B w.heap.size with h | h
    · exact h
    · simp [Array.getElem?_eq_none h] at h1
  refine ⟨by rw [fr B hB h2]; exact h1, fun ho => ?_⟩
  rcases own B ho with h | h
  · exact h2 h
  · omega
structure Sat (γ : Gam) (h : Hp) (w : World) : Prop where
  blk : ∀ id, SatB γ w id (h id)
  frz : Frz γ h w
  inj : ∀ i j B O C O' C', (h i).alive = true → (h j).alive = true → γ i = some (B, O, C) → γ j = some (B, O', C') → i = j
theorem TRel.mono {γ γ' : Gam} (hg : γ.le γ') {T : Tm} {n : Nat} {a : Array Value} (h : TRel γ T n a) : TRel γ' T n a := ⟨h.1, h.2.1, h.2.2.1, fun t v e => (h.2.2.2 t v e).mono hg⟩
/-- What holds of a block goes on to hold while the block is as it was. -/
theorem SatB.keep {γ γ' : Gam} {w w' : World} {id : Nat} {b : AB} (hg : γ.le γ') (hn : γ id = none → γ' id = none) (h : SatB γ w id b)
    (hb : ∀ B O C, b.alive = true → γ id = some (B, O, C) → w'.heap[B]? = w.heap[B]?) : SatB γ' w' id b := by
  cases b with
  | dead => trivial
  | cells c t room ro =>
    obtain ⟨B, O, C, arr, h1, h2, h0, h3, h4⟩ := h
    exact ⟨B, O, C, arr, hg _ _ h1, by rw [hb B O C rfl h1]; exact h2, h0, fun i hi => let ⟨v', e, r⟩ := h3 i hi; ⟨v', e, r.mono hg⟩, h4⟩
  | loop state pend T params assign body mk =>
    obtain ⟨B, O, C, fn, tmps, D, O', C', h1, h2, h3, h4⟩ := h
    exact ⟨B, O, C, fn, tmps, D, O', C', hg _ _ h1, hg _ _ h2, by rw [hb B O C rfl h1]; exact h3, h4.mono hg⟩
  | mark =>
    obtain ⟨B, O, C, h1, h2⟩ := h
    exact ⟨B, O, C, hg _ _ h1, by rw [hb B O C rfl h1]; exact h2⟩
  | map es clock =>
    obtain ⟨B, O, C, es', h1, h2, h3, h4⟩ := h
    exact ⟨B, O, C, es', hg _ _ h1, by rw [hb B O C rfl h1]; exact h2, h3, fun i hi hi' => let ⟨a, b, c⟩ := h4 i hi hi'; ⟨a.mono hg, b.mono hg, c⟩⟩
  | lst k t sz =>
    rcases h with ⟨h1, h2⟩ | ⟨B, O, C, arr, h1, h2, h3⟩
    · exact .inl ⟨h1, hn h2⟩
    · exact .inr ⟨B, O, C, arr, hg _ _ h1, by rw [hb B O C rfl h1]; exact h2, h3⟩
theorem SatB.at {γ : Gam} {w : World} {id : Nat} {b : AB} (h : SatB γ w id b) (ha : b.alive = true) : ∀ B O C, γ id = some (B, O, C) → B < w.heap.size := by
  intro B1 O1 C1 hq
  have key : ∀ {B : Nat} {o : Obj}, w.heap[B]? = some o → B < w.heap.size := fun {B o} e => by
    rcases Nat.lt_or_ge B w.heap.size with h | h
    · exact h
    · simp [Array.getElem?_eq_none h] at e
  cases b with
  | dead => cases ha
  | cells c t room ro => obtain ⟨B, O, C, arr, h1, h2, _⟩ := h; rw [hq] at h1; cases h1; exact key h2
  | loop state pend T params assign body mk => obtain ⟨B, O, C, fn, tmps, D, O', C', h1, h2, h3, h4⟩ := h; rw [hq] at h1; cases h1; exact key h3
  | mark => obtain ⟨B, O, C, h1, h2⟩ := h; rw [hq] at h1; cases h1; exact key h2
  | map es clock => obtain ⟨B, O, C, es', h1, h2, _⟩ := h; rw [hq] at h1; cases h1; exact key h2
  | lst k t sz =>
    rcases h with ⟨h1, h2⟩ | ⟨B, O, C, arr, h1, h2, h3⟩
    · rw [hq] at h2; cases h2
    · rw [hq] at h1; cases h1; exact key h2
/-- One step of the world, and of what its names say. -/
structure Step (lo hi : Nat) (γ : Gam) (h : Hp) (w : World) (γ' : Gam) (h' : Hp) (w' : World) : Prop where
  le : γ.le γ'
  dom : ∀ id, γ id = none → γ' id ≠ none → lo ≤ id ∧ id < hi
  size : w.heap.size ≤ w'.heap.size
  frame : ∀ B, B < w.heap.size → ¬ Own γ h B → w'.heap[B]? = w.heap[B]?
  own : ∀ B, Own γ' h' B → Own γ h B ∨ w.heap.size ≤ B
  sat : Sat γ' h' w'
  os : w'.os = w.os
  tape : w'.tape = w.tape
  output : w'.output = w.output
  ro : ∀ id, (h' id).alive = true → (h' id).own = false → h' id = h id
structure Sat0 (γ : Gam) (h : Hp) (w : World) : Prop where
  blk : ∀ id, SatB γ w id (h id)
  inj : ∀ i j B O C O' C', (h i).alive = true → (h j).alive = true → γ i = some (B, O, C) → γ j = some (B, O', C') → i = j
/-- The same, but for what nobody writes to. -/
structure Step0 (lo hi : Nat) (γ : Gam) (h : Hp) (w : World) (γ' : Gam) (h' : Hp) (w' : World) : Prop where
  le : γ.le γ'
  dom : ∀ id, γ id = none → γ' id ≠ none → lo ≤ id ∧ id < hi
  size : w.heap.size ≤ w'.heap.size
  frame : ∀ B, B < w.heap.size → ¬ Own γ h B → w'.heap[B]? = w.heap[B]?
  own : ∀ B, Own γ' h' B → Own γ h B ∨ w.heap.size ≤ B
  sat : Sat0 γ' h' w'
  os : w'.os = w.os
  tape : w'.tape = w.tape
  output : w'.output = w.output
  ro : ∀ id, (h' id).alive = true → (h' id).own = false → h' id = h id
theorem Step0.up {lo hi : Nat} {γ : Gam} {h : Hp} {w : World} {γ' : Gam} {h' : Hp} {w' : World} (hf : Frz γ h w) (st : Step0 lo hi γ h w γ' h' w') : Step lo hi γ h w γ' h' w' :=
  ⟨st.le, st.dom, st.size, st.frame, st.own, ⟨st.sat.blk, hf.step st.frame st.own, st.sat.inj⟩, st.os, st.tape, st.output, st.ro⟩
theorem Step.refl {lo hi : Nat} {γ : Gam} {h : Hp} {w : World} (hs : Sat γ h w) : Step lo hi γ h w γ h w :=
  ⟨Gam.le_refl _, fun id a b => absurd a b, Nat.le_refl _, fun _ _ _ => rfl, fun _ h => .inl h, hs, rfl, rfl, rfl, fun _ _ _ => rfl⟩
theorem Step.trans {lo mi hi : Nat} {γ γ₁ γ₂ : Gam} {h h₁ h₂ : Hp} {w w₁ w₂ : World} (hlm : lo ≤ mi) (hmh : mi ≤ hi)
    (a : Step lo mi γ h w γ₁ h₁ w₁) (b : Step mi hi γ₁ h₁ w₁ γ₂ h₂ w₂) : Step lo hi γ h w γ₂ h₂ w₂ := by
  refine ⟨Gam.le_trans a.le b.le, fun id e e2 => ?_, Nat.le_trans a.size b.size, fun B hB ho => ?_, fun B ho => ?_, b.sat, b.os.trans a.os, b.tape.trans a.tape, b.output.trans a.output, fun id h1 h2 => by have e := b.ro id h1 h2; rw [e] at h1 h2 ⊢; exact a.ro id h1 h2⟩
  · by_cases h1 : γ₁ id = none
    · have := b.dom id h1 e2; omega
    · have := a.dom id e h1; omega
  · rw [b.frame B (Nat.lt_of_lt_of_le hB a.size) (fun ho1 => ?_), a.frame B hB ho]
    rcases a.own B ho1 with h | h
    · exact ho h
    · omega
  · rcases b.own B ho with h | h
    · exact a.own B h
    · exact .inr (Nat.le_trans a.size h)
/-- A draw of the order changes nothing that is said. -/
theorem Sat.drew {γ : Gam} {h : Hp} {w : World} (hs : Sat γ h w) (n : Nat) : Sat γ h { w with drawn := n } :=
  ⟨fun id => (hs.blk id).keep (Gam.le_refl _) (fun h => h) (fun _ _ _ _ _ => rfl), fun B o e => hs.frz B o e, hs.inj⟩
end Go.Ev
namespace Go.Ev
open Go Go.RowKit
def peek (P : Program) {α : Type} : Sem α → Option α
  | .pure a => some a
  | .program k => peek P (k P)
  | .mark _ k => peek P k
  | _ => none
theorem peek_run (P : Program) {α : Type} (m : Sem α) : ∀ (a : α), peek P m = some a → ∀ w, m.run P w = .ok a w := by
  induction m with
  | pure a => intro b h w; simp [peek] at h; subst h; rfl
  | program k ih => intro b h w; simp only [peek] at h; simp only [Sem.run]; exact ih P b h w
  | mark m k ih => intro b h w; simp only [peek] at h; simp only [Sem.run]; exact ih b h w
  | _ => intro b h; simp [peek] at h
structure TI where
  desc : TypeDesc
  size : Nat
  bytes : Nat
  zero : Option Value
variable [Rho]
/-- An operation that touches no named memory, and what of it stands in the code. -/
inductive Key where
  | bin (op : BinOp) (t : TypeId)
  | un (op : UnOp)
  | conv (s d : TypeId)
  | fieldAddr (s : TypeId) (f : Nat)
  | field (t : TypeId) (f : Nat)
  | indexAddr (t : TypeId)
  | index (t : TypeId)
  | extract (i : Nat)
  | load (t : TypeId)
  | bi (b : Nat) (tys : List TypeId)
def binN : BinOp → Nat
  | .add => 0 | .sub => 1 | .mul => 2 | .quo => 3 | .rem => 4 | .and => 5 | .or => 6 | .xor => 7 | .shl => 8 | .shr => 9 | .andNot => 10
  | .eql => 11 | .neq => 12 | .lss => 13 | .leq => 14 | .gtr => 15 | .geq => 16
def unN : UnOp → Nat
  | .neg => 0 | .xor => 1 | .not => 2 | .plus => 3
def eqNs : List Nat → List Nat → Bool
  | [], [] => true
  | a :: as, b :: bs => cond (Nat.beq a b) (eqNs as bs) false
  | _, _ => false
def Key.same : Key → Key → Bool
  | .bin a t, .bin b u => cond (Nat.beq (binN a) (binN b)) (Nat.beq t u) false
  | .un a, .un b => Nat.beq (unN a) (unN b)
  | .conv a b, .conv c d => cond (Nat.beq a c) (Nat.beq b d) false
  | .fieldAddr a b, .fieldAddr c d => cond (Nat.beq a c) (Nat.beq b d) false
  | .field a b, .field c d => cond (Nat.beq a c) (Nat.beq b d) false
  | .indexAddr a, .indexAddr b => Nat.beq a b
  | .index a, .index b => Nat.beq a b
  | .extract a, .extract b => Nat.beq a b
  | .load a, .load b => Nat.beq a b
  | .bi a l, .bi b m => cond (Nat.beq a b) (eqNs l m) false
  | _, _ => false
/-- What an operation yields where the operands have these values. -/
def KeyOk (P : Program) (w : World) : Key → List Value → Value → Prop
  | .bin op t, [a, b], r => ∀ x y, (eqGuard op t x y a b).run P w = .ok () w ∧ (binOp op t a b).run P w = .ok r w
  | .un op, [a], r => (Op.unary op a).run P w = .ok r w
  | .conv s d, [a], r => (convert s d a).run P w = .ok r w
  | .fieldAddr s f, [a], r => (Instr.fieldAt s a f).run P w = .ok r w
  | .field t f, [a], r => (Instr.field t a f).run P w = .ok r w
  | .indexAddr t, [a, i], r => (Instr.indexAt t a i).run P w = .ok r w
  | .index t, [a, i], r => (Instr.index t a i).run P w = .ok r w
  | .extract ix, [a], r => (Instr.extract a ix).run P w = .ok r w
  | .load t, [a], r => (Instr.loadAt t a).run P w = .ok r w
  | .bi 0 tys, args, r => ∀ ty, (Builtin.len_ tys.toArray ty args.toArray).run P w = .ok r w
  | .bi 1 tys, args, r => ∀ ty, (Builtin.cap_ tys.toArray ty args.toArray).run P w = .ok r w
  | .bi 2 tys, args, r => ∀ ty, (Builtin.max_ tys.toArray ty args.toArray).run P w = .ok r w
  | .bi 3 tys, args, r => ∀ ty, (Builtin.min_ tys.toArray ty args.toArray).run P w = .ok r w
  | _, _, _ => False
/-- Values without names: symbols, integers, Booleans, and what is made of them. -/
def closed : Nat → Value → Bool
  | 0, _ => false
  | n + 1, v => match v with
    | .bool _ | .int _ _ | .string _ | .chan (some _) | .slice none _ _ | .pointer none | .nilFunc | .nilIface => true
    | .agg cs | .tuple cs => cs.toList.all (closed n)
    | .func fn f c => cond (isYield fn) false (cond (f.toList.all (closed n)) (c.toList.all (closed n)) false)
    | _ => false
/-- What a value without names stands for. -/
def den : Nat → Value → Value
  | 0, v => v
  | n + 1, v => match v with
    | .chan (some s) => Rho.val s
    | .agg cs => .agg ⟨cs.toList.map (den n)⟩
    | .tuple cs => .tuple ⟨cs.toList.map (den n)⟩
    | .func fn f c => .func fn ⟨f.toList.map (den n)⟩ ⟨c.toList.map (den n)⟩
    | v => v
def dens (n : Nat) (l : List Value) : List Value := l.map (den n)
/-- What is said ahead of lists whose contents are what symbols say. -/
inductive LEnt where
  | grow (k s m sz : Nat) (vs : List Value) (k' s' : Nat)
  | idx (s : Nat) (i : Value) (sz r : Nat)
  | get (k r : Nat) (vs : List Value)
  | off (r d r' : Nat)
  | keq (s : Nat) (m : Int) (b : Bool)
  | put (k r : Nat) (vs : List Value) (k' : Nat)
  | mk (n : Value) (sz : Nat) (z : List Value) (k' s' : Nat)
/-- Is it so? A list k whose length is s gets m elements more; the place of an element; its cells; a place behind. -/
def LOk : LEnt → Prop
  | .grow k s m sz vs k' s' => vs.all (closed 3) = true ∧ vs.length = m * sz ∧ ∃ n : Nat, Rho.val s = .int .i64 n ∧ Rho.val s' = .int .i64 ((n + m : Nat) : Int) ∧ (Rho.lst k).length = n * sz ∧ Rho.lst k' = Rho.lst k ++ dens 3 vs ∧ n + m < 1048576
  | .idx s i sz r => closed 3 i = true ∧ ∃ (n m : Nat) (q : IntKind), Rho.val s = .int .i64 n ∧ den 3 i = .int q m ∧ m < n ∧ Rho.val r = .int .i64 ((m * sz : Nat) : Int)
  | .get k r vs => vs.all (closed 3) = true ∧ ∃ m : Nat, Rho.val r = .int .i64 m ∧ ∀ j, j < vs.length → (Rho.lst k)[m + j]? = (dens 3 vs)[j]?
  | .off r d r' => ∃ m : Nat, Rho.val r = .int .i64 m ∧ Rho.val r' = .int .i64 ((m + d : Nat) : Int)
  | .keq s m b => ∃ n : Int, Rho.val s = .int .i64 n ∧ (n == m) = b
  | .put k r vs k' => vs.all (closed 3) = true ∧ ∃ m : Nat, Rho.val r = .int .i64 m ∧ m + vs.length ≤ (Rho.lst k).length ∧ Rho.lst k' = (Rho.lst k).take m ++ dens 3 vs ++ (Rho.lst k).drop (m + vs.length)
  | .mk n sz z k' s' => closed 3 n = true ∧ ∃ (m : Nat) (q : IntKind), den 3 n = .int q m ∧ m < 1048576 ∧ z.length = sz ∧ Rho.val s' = .int .i64 m ∧ Rho.lst k' = (List.replicate m z).flatten
def LsOk : List LEnt → Prop
  | [] => True
  | x :: l => LOk x ∧ LsOk l
/-- A slice whose memory is new, with these cells, or nil. -/
def NewList (w w' : World) (t : TypeId) (sz : Nat) (L : List Value) (a : Option Addr) (n C : Nat) : Prop :=
  L.length = n * sz ∧ ((a = none ∧ n = 0 ∧ C = 0) ∨ ∃ B O arr, a = some ⟨B, O, none⟩ ∧ w.heap.size ≤ B ∧ w'.heap[B]? = some (.cells arr t (0, 0)) ∧ O + C * sz ≤ arr.size ∧ n ≤ C ∧ ∀ i (h : i < L.length), arr[O + i]? = some L[i])
structure Env where
  ty : PT TI
  fn : PT Func
  meth : TypeId → String → Option FuncId
  known : FuncId → Option Value
  keyEq : TypeId → Value → Value → Option Bool
  keyOk : TypeId → Value → Bool
  on : Bool
  look : Key → List Value → Option Value
  calls : FuncId → List Value → Hp → Option Value
  grow : Nat → Nat → Nat → Nat → List Value → Option (Nat × Nat)
  idx : Nat → Value → Nat → Option Nat
  getL : Nat → Nat → Nat → Nat → Option (List Value)
  offL : Nat → Nat → Option Nat
  callsL : FuncId → List Value → Hp → Nat → Option (Nat × Nat × Nat × Nat × Value)
  keq : Nat → Int → Option Bool
  putL : Nat → Nat → List Value → Option Nat
  mkL : Value → Nat → List Value → Option (Nat × Nat)
  callsG : FuncId → List Value → Hp → Nat → Option (List (Nat × AB) × List AB × Value)
/-- Blocks that are changed; new blocks. -/
def updH (h : Hp) : List (Nat × AB) → Hp
  | [] => h
  | p :: l => updH (fun j => if j = p.1 then p.2 else h j) l
def newH (h : Hp) (nx : Nat) : List AB → Hp
  | [] => h
  | b :: l => newH (fun j => if j = nx then b else h j) (nx + 1) l
def Env.tyOf (e : Env) (t : TypeId) : Option TI := cond (Nat.blt t 1024) (PT.get 10 e.ty t) none
def Env.fnOf (e : Env) (f : FuncId) : Option Func := cond (Nat.blt f 1024) (PT.get 10 e.fn f) none
structure Env.Ok (P : Program) (e : Env) : Prop where
  ty : ∀ t i, e.tyOf t = some i → P.underlying t = some i.desc ∧ ∃ j, P.info? t = some j ∧ j.size = i.size ∧ j.bytes = i.bytes ∧ j.zero = i.zero
  fn : ∀ f fn, e.fnOf f = some fn → P.funcs[f]? = some fn ∧ (fn.name == "runtime.NumGoroutine") = false
  meth : ∀ t n f, e.meth t n = some f → ∀ v w, (method (P.types.size + Made.depth) t v n).run P w = .ok (f, v) w
  mixed : P.follows .mixedOrders = true
  known : ∀ f v, e.known f = some v → plain 3 v = true ∧ (∃ fn c, e.fnOf f = some fn ∧ fn.body = some c) ∧ ∀ w, Calls P f #[] w (fun en w' => en = .returned v ∧ Below w.heap.size w w')
  keyEq : ∀ t a b r, e.keyEq t a b = some r → ∀ w, (Op.equal t a b).run P w = .ok r w
  keyOk : ∀ t v, e.keyOk t v = true → ∀ em w, (Instr.checkKey em 10000 t v).run P w = .ok () w
  look : ∀ k args v, e.look k args = some v → args.all (closed 3) = true ∧ closed 3 v = true ∧ ∀ w, MemOk w → KeyOk P w k (dens 3 args) (den 3 v)
  calls : ∀ f args v s, e.calls f args s = some v → closed 3 v = true ∧ (∃ fn c, e.fnOf f = some fn ∧ fn.body = some c) ∧
    ∀ γ (args' : Array Value) w, args'.size = args.length → (∀ i (h1 : i < args.length) (h2 : i < args'.size), VRel γ args[i] args'[i]) → Sat γ s w → Calls P f args' w (fun en w' => en = .returned (den 3 v) ∧ Below w.heap.size w w')
  grow : ∀ k s m sz vs q, e.grow k s m sz vs = some q → LOk (.grow k s m sz vs q.1 q.2)
  idx : ∀ s i sz r, e.idx s i sz = some r → LOk (.idx s i sz r)
  getL : ∀ k r n t vs, e.getL k r n t = some vs → vs.length = n ∧ LOk (.get k r vs)
  offL : ∀ r d r', e.offL r d = some r' → LOk (.off r d r')
  callsL : ∀ f args s nx k t sz sy u, e.callsL f args s nx = some (k, t, sz, sy, u) → (∃ fn c, e.fnOf f = some fn ∧ fn.body = some c) ∧
    ∀ γ (args' : Array Value) w, args'.size = args.length → (∀ i (h1 : i < args.length) (h2 : i < args'.size), VRel γ args[i] args'[i]) → Sat γ s w →
      Calls P f args' w (fun en w' => Below w.heap.size w w' ∧ ∃ v' a n C, en = .returned v' ∧ NewList w w' t sz (Rho.lst k) a n C ∧ Rho.val sy = .int .i64 (n : Nat) ∧ ∀ γ', VRel γ' (.pointer (some ⟨nx, sy, some 2⟩)) (.slice a n C) → VRel γ' u v')
  keq : ∀ s m b, e.keq s m = some b → LOk (.keq s m b)
  putL : ∀ k r vs k', e.putL k r vs = some k' → LOk (.put k r vs k')
  mkL : ∀ n sz z q, e.mkL n sz z = some q → LOk (.mk n sz z q.1 q.2)
  callsG : ∀ f args s nx upd new u, e.callsG f args s nx = some (upd, new, u) → (∃ fn c, e.fnOf f = some fn ∧ fn.body = some c) ∧
    ∀ γ (args' : Array Value) w, args'.size = args.length → (∀ i (h1 : i < args.length) (h2 : i < args'.size), VRel γ args[i] args'[i]) → Sat γ s w → (∀ id, nx ≤ id → id < nx + new.length → γ id = none) →
      Calls P f args' w (fun en w' => ∃ γ' v', en = .returned v' ∧ VRel γ' u v' ∧ Step nx (nx + new.length) γ s w γ' (newH (updH s upd) nx new) w')
def isAggD : TypeDesc → Bool
  | .struct _ | .array _ _ => true
  | _ => false
section
variable {P : Program} {e : Env} (he : Env.Ok P e)
include he
theorem ok_underlying {t : TypeId} {i : TI} (h : e.tyOf t = some i) (w : World) : (underlying t).run P w = .ok i.desc w := run_underlying (he.ty t i h).1 w
theorem ok_sizeOf {t : TypeId} {i : TI} (h : e.tyOf t = some i) (w : World) : (sizeOf t).run P w = .ok i.size w := by
  obtain ⟨_, j, hj, hs, _, _⟩ := he.ty t i h
  simp [sizeOf, typeInfo, hj, hs]
theorem ok_zero {t : TypeId} {i : TI} {z : Value} (h : e.tyOf t = some i) (hz : i.zero = some z) (w : World) : (zeroValue t).run P w = .ok z w := by
  obtain ⟨_, j, hj, _, _, hz'⟩ := he.ty t i h
  simp [zeroValue, typeInfo, hj, hz', hz]
theorem ok_bytes {t : TypeId} {i : TI} (h : e.tyOf t = some i) (w : World) : ∃ j, (typeInfo t).run P w = .ok j w ∧ P.info? t = some j ∧ j.size = i.size ∧ j.bytes = i.bytes ∧ j.zero = i.zero := by
  obtain ⟨_, j, hj, hs, hb, hz'⟩ := he.ty t i h
  exact ⟨j, by simp [typeInfo, hj], hj, hs, hb, hz'⟩
theorem ok_isAgg {t : TypeId} {i : TI} (h : e.tyOf t = some i) (w : World) : (isAgg t).run P w = .ok (isAggD i.desc) w := by
  unfold isAgg
  rw [Sem.run_bind, ok_underlying he h]
  simp only [Result.andThen_ok]
  cases i.desc <;> rfl
end
def constV (v : Value) : Option Value := match v with
  | .int k n => some (.int k n)
  | .bool b => some (.bool b)
  | v => cond (plain 8 v) (some v) none
omit [Rho] in
theorem constV_ok {v u : Value} (h : constV v = some u) : u = v ∧ plain 8 v = true := by
  unfold constV at h
  split at h
  · injection h with h; exact ⟨h.symm, by simp [plain]⟩
  · injection h with h; exact ⟨h.symm, by simp [plain]⟩
  · cases hp : plain 8 v with
    | true => rw [hp, cond_true] at h; injection h with h; exact ⟨h.symm, rfl⟩
    | false => rw [hp, cond_false] at h; cases h
def aev (T : Tm) : Operand → Option Value
  | .tmp t => tget T t
  | .const v => constV v
  | .global _ => none
  | .func f => some (.func (.func f) #[] #[])
theorem aev_rel {γ : Gam} {T : Tm} {n : Nat} {a : Act} (hT : TRel γ T n a.tmps) {x : Operand} {v : Value} (h : aev T x = some v) : VRel γ v (a.eval x) := by
  cases x with
  | tmp t => exact hT.2.2.2 t v h
  | const u =>
    obtain ⟨rfl, hp⟩ := constV_ok (show constV u = some v from h)
    exact plain_rel γ 8 _ hp
  | global g => simp [aev] at h
  | func f => simp [aev] at h; subst h; exact .func _ (by simp) _ _ _ _ rfl (fun i h1 _ => by simp at h1) rfl (fun i h1 _ => by simp at h1)
def aevs (T : Tm) : List Operand → Option (List Value)
  | [] => some []
  | x :: xs => match aev T x with
    | some v => match aevs T xs with
      | some vs => some (v :: vs)
      | none => none
    | none => none
def LRel (γ : Gam) (l l' : List Value) : Prop := l.length = l'.length ∧ ∀ i (h1 : i < l.length) (h2 : i < l'.length), VRel γ l[i] l'[i]
theorem LRel.nil (γ : Gam) : LRel γ [] [] := ⟨rfl, fun i h1 _ => by simp at h1⟩
theorem LRel.cons {γ : Gam} {v v' : Value} {l l' : List Value} (h : VRel γ v v') (hl : LRel γ l l') : LRel γ (v :: l) (v' :: l') := by
  refine ⟨by simp [hl.1], fun i h1 h2 => ?_⟩
  cases i with
  | zero => exact h
  | succ i => simpa using hl.2 i (by simpa using h1) (by simpa using h2)
theorem LRel.mono {γ γ' : Gam} (hg : γ.le γ') {l l' : List Value} (h : LRel γ l l') : LRel γ' l l' := ⟨h.1, fun i h1 h2 => (h.2 i h1 h2).mono hg⟩
theorem LRel.append {γ : Gam} {a a' b b' : List Value} (h : LRel γ a a') (k : LRel γ b b') : LRel γ (a ++ b) (a' ++ b') := by
  refine ⟨by simp [h.1, k.1], fun i h1 h2 => ?_⟩
  by_cases hi : i < a.length
  · rw [List.getElem_append_left hi, List.getElem_append_left (by rw [← h.1]; exact hi)]; exact h.2 _ _ _
  · rw [List.getElem_append_right (by omega), List.getElem_append_right (by rw [← h.1]; omega)]
    have e : i - a'.length = i - a.length := by rw [h.1]
    simp only [e]
    exact k.2 _ _ _
theorem LRel.take {γ : Gam} {a a' : List Value} (h : LRel γ a a') (n : Nat) : LRel γ (a.take n) (a'.take n) :=
  ⟨by simp [h.1], fun i h1 h2 => by simp only [List.getElem_take]; exact h.2 _ _ _⟩
theorem LRel.drop {γ : Gam} {a a' : List Value} (h : LRel γ a a') (n : Nat) : LRel γ (a.drop n) (a'.drop n) :=
  ⟨by simp [h.1], fun i h1 h2 => by simp only [List.getElem_drop]; exact h.2 _ _ _⟩
theorem LRel.get {γ : Gam} {a a' : List Value} (h : LRel γ a a') {i : Nat} {v : Value} (e : a[i]? = some v) : ∃ v', a'[i]? = some v' ∧ VRel γ v v' := by
  obtain ⟨hi, rfl⟩ := List.getElem?_eq_some_iff.1 e
  have hi' : i < a'.length := by rw [← h.1]; exact hi
  exact ⟨a'[i], List.getElem?_eq_getElem hi', h.2 i hi hi'⟩
theorem ARel.toList {γ : Gam} {a a' : Array Value} (h : ARel γ a a') : LRel γ a.toList a'.toList := ⟨by simpa using h.1, fun i h1 h2 => by simpa using h.2 i (by simpa using h1) (by simpa using h2)⟩
theorem LRel.toArray {γ : Gam} {a a' : List Value} (h : LRel γ a a') : ARel γ a.toArray a'.toArray := ⟨by simpa using h.1, fun i h1 h2 => by simpa using h.2 i (by simpa using h1) (by simpa using h2)⟩
theorem VRel.aggOf {γ : Gam} {a a' : List Value} (h : LRel γ a a') : VRel γ (.agg a.toArray) (.agg a'.toArray) := .agg _ _ h.toArray.1 h.toArray.2
theorem VRel.tupleOf {γ : Gam} {a a' : List Value} (h : LRel γ a a') : VRel γ (.tuple a.toArray) (.tuple a'.toArray) := .tuple _ _ h.toArray.1 h.toArray.2
theorem aevs_rel {γ : Gam} {T : Tm} {n : Nat} {a : Act} (hT : TRel γ T n a.tmps) : ∀ {xs : List Operand} {vs : List Value}, aevs T xs = some vs → LRel γ vs (xs.map a.eval)
  | [], vs, h => by simp [aevs] at h; subst h; exact .nil γ
  | x :: xs, vs, h => by
    simp only [aevs] at h
    cases hx : aev T x with
    | none => simp [hx] at h
    | some v =>
      cases hr : aevs T xs with
      | none => simp [hx, hr] at h
      | some r => simp [hx, hr] at h; subst h; exact .cons (aev_rel hT hx) (aevs_rel hT hr)
theorem VRel.cells {γ : Gam} {v v' : Value} (h : VRel γ v v') : LRel γ v.cells.toList v'.cells.toList := by
  have one : ∀ {u u' : Value}, VRel γ u u' → LRel γ [u] [u'] := fun h => .cons h (.nil γ)
  cases h with
  | sym s => rw [Rho.one s]; exact one (.sym s)
  | agg f f' hs hv => exact ARel.toList ⟨hs, hv⟩
  | bool b => exact one (.bool b)
  | int k n => exact one (.int k n)
  | float k n => exact one (.float k n)
  | complex k m n => exact one (.complex k m n)
  | string s => exact one (.string s)
  | nilptr => exact one .nilptr
  | ptr o h => exact one (.ptr o h)
  | nilslice n c => exact one (.nilslice n c)
  | slice o n c h hn => exact one (.slice o n c h hn)
  | slicee a c => exact one (.slicee a c)
  | nilmap => exact one .nilmap
  | map h => exact one (.map h)
  | nilchan => exact one .nilchan
  | func fn hf f f' c c' hs h gs g => exact one (.func fn hf f f' c c' hs h gs g)
  | yield h => exact one (.yield h)
  | nilfunc => exact one .nilfunc
  | iface t h => exact one (.iface t h)
  | lsl s n h hs hn => exact one (.lsl s n h hs hn)
  | lsn id s hs => exact one (.lsn id s hs)
  | lsp r m h hr => exact one (.lsp r m h hr)
  | niliface => exact one .niliface
  | tuple f f' hs hv => exact one (.tuple f f' hs hv)
theorem closed_rel (γ : Gam) : ∀ (n : Nat) (v : Value), closed n v = true → VRel γ v (den n v) := by
  intro n
  induction n with
  | zero => intro v h; simp [closed] at h
  | succ n ih =>
    intro v h
    have arr : ∀ cs : Array Value, cs.toList.all (closed n) = true → ARel γ cs ⟨cs.toList.map (den n)⟩ := fun cs hc =>
      ⟨by simp, fun i h1 h2 => by simpa using ih _ (all_at hc i h1)⟩
    cases v with
    | bool b => exact .bool b
    | int k n => exact .int k n
    | string s => exact .string s
    | chan r => cases r with
      | none => simp [closed] at h
      | some s => exact .sym s
    | slice a l c => cases a with
      | none => exact .nilslice l c
      | some a => simp [closed] at h
    | pointer a => cases a with
      | none => exact .nilptr
      | some a => simp [closed] at h
    | nilFunc => exact .nilfunc
    | nilIface => exact .niliface
    | agg cs => have := arr cs (by simpa only [closed] using h); exact .agg _ _ this.1 this.2
    | tuple cs => have := arr cs (by simpa only [closed] using h); exact .tuple _ _ this.1 this.2
    | func fn f c =>
      cases hy : isYield fn with
      | true => simp [closed, hy] at h
      | false =>
        cases hf : f.toList.all (closed n) with
        | false => simp only [closed, hy, hf, cond] at h; cases h
        | true =>
          have hc : c.toList.all (closed n) = true := by simpa only [closed, hy, hf, cond] using h
          have h1 := arr f hf
          have h2 := arr c hc
          exact .func fn (fun l e => by subst e; simp [isYield] at hy) _ _ _ _ h1.1 h1.2 h2.1 h2.2
    | _ => simp [closed] at h
theorem closed_eq (γ : Gam) : ∀ (n : Nat) (v v' : Value), closed n v = true → VRel γ v v' → v' = den n v := by
  intro n
  induction n with
  | zero => intro v v' h; simp [closed] at h
  | succ n ih =>
    intro v v' h hr
    have arr : ∀ (f f' : Array Value), f.size = f'.size → (∀ i (h1 : i < f.size) (h2 : i < f'.size), VRel γ f[i] f'[i]) → f.toList.all (closed n) = true → f' = ⟨f.toList.map (den n)⟩ := by
      intro f f' hs hv ha
      apply Array.ext (by simp [hs])
      intro i h1 h2
      have h3 : i < f.size := by omega
      simpa using ih _ _ (all_at ha i h3) (hv i h3 h1)
    cases hr with
    | sym s => rfl
    | agg f f' hs hv => rw [arr f f' hs hv (by simpa only [closed] using h)]; rfl
    | tuple f f' hs hv => rw [arr f f' hs hv (by simpa only [closed] using h)]; rfl
    | func fn hf f f' c c' hs hv gs gv =>
      cases hy : isYield fn with
      | true => simp [closed, hy] at h
      | false =>
        cases hf2 : f.toList.all (closed n) with
        | false => simp only [closed, hy, hf2, cond] at h; cases h
        | true =>
          have hc : c.toList.all (closed n) = true := by simpa only [closed, hy, hf2, cond] using h
          rw [arr f f' hs hv hf2, arr c c' gs gv hc]; rfl
    | yield hg => simp [closed, isYield] at h
    | bool | int | string | nilptr | nilslice | nilfunc | niliface => rfl
    | _ => simp [closed] at h
theorem closed_eqs (γ : Gam) (n : Nat) : ∀ (l l' : List Value), l.all (closed n) = true → LRel γ l l' → l' = dens n l
  | [], [], _, _ => rfl
  | [], _ :: _, _, h => by have := h.1; simp at this
  | _ :: _, [], _, h => by have := h.1; simp at this
  | v :: l, v' :: l', hc, h => by
    simp only [List.all_cons, Bool.and_eq_true] at hc
    have h0 : VRel γ v v' := by have := h.2 0 (by simp) (by simp); exact this
    have ht : LRel γ l l' := by simpa using h.drop 1
    rw [closed_eq γ n v v' hc.1 h0, closed_eqs γ n l l' hc.2 ht]
    rfl
/-- 'Instr.fill' over lists. -/
def fillL (place : Nat → Option (Nat × Nat)) : List Value → List (Nat × Value) → Option (List Value)
  | cells, [] => some cells
  | cells, (i, v) :: rest => match place i with
    | none => none
    | some (off, size) =>
      cond (Nat.beq v.cells.toList.length size) (cond (Nat.ble (off + size) cells.length) (fillL place (cells.take off ++ v.cells.toList ++ cells.drop (off + size)) rest) none) none
omit [Rho] in
theorem foldl_seg (off : Nat) : ∀ (vs : List Value) (s : Nat) (cs : Array Value), off + s + vs.length ≤ cs.size →
    ((vs.zipIdx s).foldl (fun (cs : Array Value) (p : Value × Nat) => cs.setIfInBounds (off + p.2) p.1) cs).toList = cs.toList.take (off + s) ++ vs ++ cs.toList.drop (off + s + vs.length)
  | [], s, cs, _ => by simp
  | v :: vs, s, cs, h => by
    simp only [List.length_cons] at h
    simp only [List.zipIdx_cons, List.foldl_cons]
    rw [foldl_seg off vs (s + 1) _ (by simp; omega)]
    apply List.ext_getElem?
    intro j
    simp only [Array.toList_setIfInBounds, List.append_assoc, List.getElem?_append, List.length_take, List.getElem?_take, List.getElem?_drop, List.getElem?_set, List.length_set, List.length_cons, Array.length_toList, List.cons_append]
    have e1 : min (off + (s + 1)) cs.size = off + s + 1 := by omega
    have e2 : min (off + s) cs.size = off + s := by omega
    simp only [e1, e2]
    rcases Nat.lt_trichotomy j (off + s) with hj | hj | hj
    · simp [show j < off + s + 1 by omega, show j < off + (s + 1) by omega, hj, show ¬ (off + s = j) by omega]
    · subst hj
      simp [show off + s < off + (s + 1) by omega, show off + s < cs.size by omega]
    · have h1 : ¬ j < off + s + 1 := by omega
      have h2 : ¬ j < off + s := by omega
      simp only [h1, h2, if_false]
      obtain ⟨k, rfl⟩ : ∃ k, j = off + s + 1 + k := ⟨j - (off + s + 1), by omega⟩
      have e3 : off + s + 1 + k - (off + s + 1) = k := by omega
      have e4 : off + s + 1 + k - (off + s) = k + 1 := by omega
      simp only [e3, e4, List.getElem?_cons_succ]
      by_cases hk : k < vs.length
      · simp [List.getElem?_append, hk]
      · have e5 : ¬ (off + s = off + s + (vs.length + 1) + (k - vs.length)) := by omega
        have e6 : off + (s + 1) + vs.length + (k - vs.length) = off + s + (vs.length + 1) + (k - vs.length) := by omega
        simp [List.getElem?_append, hk, e5, e6]
theorem fill_rel {γ : Gam} (place : Nat → Option (Nat × Nat)) : ∀ (ps ps' : List (Nat × Value)) (c : List Value) (c' : Array Value) (r : List Value),
    ps.map (·.1) = ps'.map (·.1) → LRel γ (ps.map (·.2)) (ps'.map (·.2)) → LRel γ c c'.toList → fillL place c ps = some r →
    ∃ r', Instr.fill place c' ps' = some r' ∧ LRel γ r r'.toList
  | [], [], c, c', r, _, _, hc, h => by simp [fillL] at h; subst h; exact ⟨c', rfl, hc⟩
  | [], p :: ps', _, _, _, h, _, _, _ => by simp at h
  | p :: ps, [], _, _, _, h, _, _, _ => by simp at h
  | (i, v) :: ps, (i', v') :: ps', c, c', r, hi, hv, hc, h => by
    simp only [List.map_cons, List.cons.injEq] at hi
    obtain ⟨rfl, hi⟩ := hi
    have hv0 : VRel γ v v' := by simpa using hv.2 0 (by simp) (by simp)
    have hvs : LRel γ (ps.map (·.2)) (ps'.map (·.2)) := by simpa using hv.drop 1
    have hcl := hv0.cells
    simp only [fillL] at h
    cases hp : place i with
    | none => simp [hp] at h
    | some q =>
      obtain ⟨off, size⟩ := q
      simp only [hp] at h
      cases h1 : Nat.beq v.cells.toList.length size with
      | false => simp only [h1, cond] at h; cases h
      | true =>
        cases h2 : Nat.ble (off + size) c.length with
        | false => simp only [h1, h2, cond] at h; cases h
        | true =>
          simp only [h1, h2, cond] at h
          have e1 : v.cells.toList.length = size := Nat.eq_of_beq_eq_true h1
          have e2 : off + size ≤ c.length := Nat.le_of_ble_eq_true h2
          have e1' : v'.cells.size = size := by rw [← e1, hcl.1]; simp
          have e2' : off + size ≤ c'.size := by have := hc.1; simp at this; omega
          have seg := foldl_seg off v'.cells.toList 0 c' (by simp; omega)
          have hseg : (v'.cells.zipIdx.foldl (fun cs (x : Value × Nat) => cs.setIfInBounds (off + x.2) x.1) c').toList = c'.toList.take off ++ v'.cells.toList ++ c'.toList.drop (off + size) := by
            rw [← Array.foldl_toList, Array.toList_zipIdx]
            simpa [e1'] using seg
          obtain ⟨r', hr', hrel⟩ := fill_rel place ps ps' _ (v'.cells.zipIdx.foldl (fun cs (x : Value × Nat) => cs.setIfInBounds (off + x.2) x.1) c') r hi hvs
            (by rw [hseg]; exact ((hc.take _).append hcl).append (hc.drop _)) h
          refine ⟨r', ?_, hrel⟩
          have n1 : ¬ (v'.cells.size ≠ size) := by simp [e1']
          have n2 : ¬ (off + v'.cells.size > c'.size) := by rw [e1']; omega
          have nb : (decide (v'.cells.size ≠ size) || decide (off + v'.cells.size > c'.size)) = false := by simp [e1']; omega
          simp only [Instr.fill, hp, nb]
          exact hr'
end Go.Ev
namespace Go.Ev
open Go Go.RowKit
variable [Rho]
/-- The operands that are plain values: the model's own code is run, where it asks nothing of the world. -/
def viaModel (P : Program) (T : Tm) (o : Oper) : Option Value :=
  match o.op with
  | .select _ _ => none
  | _ =>
    cond (o.op.operands.toList.all fun x => match aev T x with | some v => plain 8 v | none => false)
      (match peek P (execOp (fun x => (aev T x).getD undef) o) with
        | some (.value v) => cond (plain 8 v) (some v) none
        | _ => none)
      none
def partL (i : TI) (cs : List Value) (off : Nat) : Option Value :=
  cond (isAggD i.desc) (some (.agg ((cs.drop off).take i.size).toArray)) cs[off]?
def placesL (e : Env) : List Field → Option (List (Nat × Nat))
  | [] => some []
  | f :: fs => match e.tyOf f.type with
    | some i => match placesL e fs with
      | some r => some ((f.offset, i.size) :: r)
      | none => none
    | none => none
def sliceL (o n c size : Nat) (lo hi mx : Option Nat) : Option (Nat × Nat × Nat) :=   -- offset, length, capacity
  let h := hi.getD n
  let l := lo.getD 0
  let opened := Nat.ble openCap c
  match mx with
  | none =>
    cond (Nat.ble h (cond opened n c)) (cond (Nat.ble l h) (cond opened
      (cond (Nat.beq l 0) (some (o, h - l, c)) (cond (Nat.blt l n) (some (o + l * size, h - l, c + l)) none))
      (some (cond (Nat.beq c l) o (o + l * size), h - l, c - l))) none) none
  | some m =>
    cond (Nat.blt m openCap) (cond (Nat.ble m (cond opened n c)) (cond (Nat.ble h m) (cond (Nat.ble l h) (some (cond (Nat.beq m l) o (o + l * size), h - l, m - l)) none) none) none) none
/-- 's[len(s):]', of a slice whose capacity is not known: empty, nobody knows where. -/
def emptyTail (n c : Nat) (lo hi mx : Option Nat) : Bool := match lo, mx with
  | some l, none => cond (Nat.ble openCap c) (cond (Nat.beq l n) (Nat.beq (hi.getD n) n) false) false
  | _, _ => false
def natOf : Option Value → Option (Option Nat)
  | none => some none
  | some (.int _ (.ofNat n)) => some (some n)
  | some _ => none
def optOp (T : Tm) : Option Operand → Option (Option Value)
  | none => some none
  | some x => match aev T x with
    | some v => some (some v)
    | none => none
def nilEq : Value → Value → Option Bool
  | .pointer (some ⟨_, _, none⟩), .pointer none | .pointer none, .pointer (some ⟨_, _, none⟩) => some false
  | .slice (some _) _ _, .slice none _ _ | .slice none _ _, .slice (some _) _ _ => some false
  | .map (some _), .map none | .map none, .map (some _) => some false
  | .func _ _ _, .nilFunc | .nilFunc, .func _ _ _ => some false
  | .iface _ _, .nilIface | .nilIface, .iface _ _ => some false
  | _, _ => none
def nilDesc : TypeDesc → Value → Bool
  | .pointer _, .pointer _ | .slice _, .slice _ _ _ | .map _ _, .map _ | .func _ _ _, .func _ _ _ | .func _ _ _, .nilFunc | .interface _, .iface _ _ | .interface _, .nilIface => true
  | _, _ => false
def pPick (T : Tm) (c a b : Operand) : Option Value :=
  match aev T c with
    | some (.bool t) => cond t (aev T a) (aev T b)
    | _ => none
def pNil (T : Tm) (x : Operand) : Option Value :=
  match aev T x with
    | some (.pointer (some ⟨b, o, none⟩)) => some (.pointer (some ⟨b, o, none⟩))
    | some (.slice a n c) => some (.slice a n c)
    | some (.func (.func f) fi ca) => some (.func (.func f) fi ca)
    | _ => none
def pFieldAddr (e : Env) (T : Tm) (s : TypeId) (x : Operand) (f : Nat) : Option Value :=
  match e.tyOf s, aev T x with
    | some i, some (.pointer (some ⟨b, o, none⟩)) => match i.desc with
      | .struct fields => match fields.toList[f]? with
        | some fl => match e.tyOf fl.type with
          | some j => cond (Nat.beq j.size 0) none (some (.pointer (some ⟨b, o + fl.offset, none⟩)))
          | none => none
        | none => none
      | _ => none
    | _, _ => none
def pIndexAddr (e : Env) (T : Tm) (t : TypeId) (x ix : Operand) : Option Value :=
  match e.tyOf t, aev T x, aev T ix with
    | some i, some (.slice (some ⟨b, o, none⟩) n _), some (.int _ (.ofNat j)) => match i.desc with
      | .slice el => match e.tyOf el with
        | some k => cond (Nat.blt j n) (some (.pointer (some ⟨b, o + j * k.size, none⟩))) none
        | none => none
      | _ => none
    | some i, some (.pointer (some ⟨b, o, none⟩)), some (.int _ (.ofNat j)) => match i.desc with
      | .array n el => match e.tyOf el with
        | some k => cond (Nat.blt j n) (some (.pointer (some ⟨b, o + j * k.size, none⟩))) none
        | none => none
      | _ => none
    | _, _, _ => none
def pSlice (e : Env) (T : Tm) (t : TypeId) (x : Operand) (lo hi mx : Option Operand) : Option Value :=
  match e.tyOf t, aev T x, optOp T lo, optOp T hi, optOp T mx with
    | some i, some (.slice (some ⟨b, o, none⟩) n c), some lo, some hi, some mx => match i.desc with
      | .slice el => match e.tyOf el, natOf lo, natOf hi, natOf mx with
        | some k, some lo, some hi, some mx => cond (mx.isSome && hi.isNone) none (match sliceL o n c k.size lo hi mx with
          | some (o', n', c') => some (.slice (some ⟨b, o', none⟩) n' c')
          | none => cond (emptyTail n c lo hi mx) (some (.slice (some ⟨0, 0, some 1⟩) 0 0)) none)
        | _, _, _, _ => none
      | _ => none
    | _, _, _, _, _ => none
def pField (e : Env) (T : Tm) (t : TypeId) (x : Operand) (f : Nat) : Option Value :=
  match e.tyOf t, aev T x with
    | some i, some (.agg cs) => match i.desc with
      | .struct fields => match fields.toList[f]? with
        | some fl => match e.tyOf fl.type with
          | some j => partL j cs.toList fl.offset
          | none => none
        | none => none
      | _ => none
    | _, _ => none
def pIndex (e : Env) (T : Tm) (t : TypeId) (x ix : Operand) : Option Value :=
  match e.tyOf t, aev T x, aev T ix with
    | some i, some (.agg cs), some (.int _ (.ofNat j)) => match i.desc with
      | .array n el => match e.tyOf el with
        | some k => cond (Nat.blt j n) (partL k cs.toList (j * k.size)) none
        | none => none
      | _ => none
    | _, _, _ => none
def pExtract (T : Tm) (t : Operand) (ix : Nat) : Option Value :=
  match aev T t with
    | some (.tuple vs) => vs.toList[ix]?
    | _ => none
def pMakeFunc (T : Tm) (fn : Fn) (first captured : Array Operand) : Option Value :=
  cond (isYield fn) none (match aevs T first.toList, aevs T captured.toList with
    | some f, some c => some (.func fn f.toArray c.toArray)
    | _, _ => none)
def pMakeIface (e : Env) (T : Tm) (t : TypeId) (x : Operand) : Option Value :=
  match e.tyOf t, aev T x with
    | some i, some v => match i.desc with
      | .interface _ => none
      | _ => some (.iface t v)
    | _, _ => none
def pAssert (e : Env) (T : Tm) (x : Operand) (t : TypeId) (ok : Bool) : Option Value :=
  match e.tyOf t, aev T x with
    | some i, some (.iface u v) => match i.desc with
      | .interface _ => none
      | _ => cond (Nat.beq u t) (some (cond ok (.tuple #[v, .bool true]) v)) none
    | _, _ => none
def pBuild (e : Env) (T : Tm) (t : TypeId) (parts : Array (Nat × Operand)) : Option Value :=
  match e.tyOf t, aevs T (parts.toList.map (·.2)) with
    | some i, some vs => match i.zero with
      | some z => cond (plain 8 z) (match i.desc with
        | .struct fields => match placesL e fields.toList with
          | some pl => match fillL (pl[·]?) z.cells.toList ((parts.toList.map (·.1)).zip vs) with
            | some r => some (.agg r.toArray)
            | none => none
          | none => none
        | .array _ el => match e.tyOf el with
          | some k => match fillL (fun i => some (i * k.size, k.size)) z.cells.toList ((parts.toList.map (·.1)).zip vs) with
            | some r => some (.agg r.toArray)
            | none => none
          | none => none
        | _ => none) none
      | none => none
    | _, _ => none
def pEq (e : Env) (T : Tm) (t : TypeId) (x y : Operand) : Option Value :=
  match e.tyOf t, aev T x, aev T y with
    | some i, some v, some u => cond (nilDesc i.desc v && nilDesc i.desc u) ((nilEq v u).map .bool) none
    | _, _, _ => none
def pNe (e : Env) (T : Tm) (t : TypeId) (x y : Operand) : Option Value :=
  match e.tyOf t, aev T x, aev T y with
    | some i, some v, some u => cond (nilDesc i.desc v && nilDesc i.desc u) ((nilEq v u).map fun b => .bool !b) none
    | _, _, _ => none
def pLen (e : Env) (T : Tm) (args : Array Operand) (tys : Array TypeId) : Option Value :=
  match args.toList, tys.toList with
    | [x], t :: _ => match e.tyOf t, aev T x with
      | some i, some (.slice (some _) n _) => match i.desc with
        | .slice _ => some (.int .i64 n)
        | _ => none
      | _, _ => none
    | _, _ => none
/-! ### integers, fast -/
def inI (h : Nat) : Int → Bool
  | .ofNat m => Nat.blt m h
  | .negSucc m => Nat.blt m h
def inU (h : Nat) : Int → Bool
  | .ofNat m => Nat.blt m h
  | .negSucc _ => false
def wrapF (k : IntKind) (n : Int) : Int := match k with
  | .i64 => cond (inI 9223372036854775808 n) n (IntKind.i64.wrap n)
  | .u64 => cond (inU 18446744073709551616 n) n (IntKind.u64.wrap n)
  | .u8 => cond (inU 256 n) n (IntKind.u8.wrap n)
  | .u16 => cond (inU 65536 n) n (IntKind.u16.wrap n)
  | .u32 => cond (inU 4294967296 n) n (IntKind.u32.wrap n)
  | k => k.wrap n
omit [Rho] in
theorem inI_iff {h : Nat} {n : Int} (e : inI h n = true) : -(h : Int) ≤ n ∧ n < (h : Int) := by
  cases n with
  | ofNat m => have : m < h := Nat.le_of_ble_eq_true e; simp; omega
  | negSucc m => have : m < h := Nat.le_of_ble_eq_true e; omega
omit [Rho] in
theorem inU_iff {h : Nat} {n : Int} (e : inU h n = true) : 0 ≤ n ∧ n < (h : Int) := by
  cases n with
  | ofNat m => have : m < h := Nat.le_of_ble_eq_true e; simp; omega
  | negSucc m => simp [inU] at e
omit [Rho] in
theorem wrapF_eq (k : IntKind) (n : Int) : wrapF k n = k.wrap n := by
  cases k with
  | i64 =>
    simp only [wrapF]
    cases h : inI 9223372036854775808 n with
    | true => have := inI_iff h; rw [cond_true, IntWalk.i64_in n (by omega)]
    | false => rfl
  | u64 =>
    simp only [wrapF]
    cases h : inU 18446744073709551616 n with
    | true => have := inU_iff h; rw [cond_true]; simp [IntKind.wrap, IntKind.bits, IntKind.signed]; omega
    | false => rfl
  | u8 =>
    simp only [wrapF]
    cases h : inU 256 n with
    | true => have := inU_iff h; rw [cond_true, IntWalk.u8_in n (by omega)]
    | false => rfl
  | u16 =>
    simp only [wrapF]
    cases h : inU 65536 n with
    | true => have := inU_iff h; rw [cond_true, IntWalk.u16_in n (by omega)]
    | false => rfl
  | u32 =>
    simp only [wrapF]
    cases h : inU 4294967296 n with
    | true => have := inU_iff h; rw [cond_true]; simp [IntKind.wrap, IntKind.bits, IntKind.signed]; omega
    | false => rfl
  | i8 => rfl
  | i16 => rfl
  | i32 => rfl
def eqI : Int → Int → Bool
  | .ofNat m, .ofNat n => Nat.beq m n
  | .negSucc m, .negSucc n => Nat.beq m n
  | _, _ => false
def ltI : Int → Int → Bool
  | .ofNat m, .ofNat n => Nat.blt m n
  | .negSucc _, .ofNat _ => true
  | .ofNat _, .negSucc _ => false
  | .negSucc m, .negSucc n => Nat.blt n m
omit [Rho] in
theorem eqI_eq (a b : Int) : eqI a b = (a == b) := by
  cases a with
  | ofNat m => cases b with
    | ofNat n =>
      simp only [eqI, beq_decide]
      by_cases h : m = n
      · subst h; simp
      · have : ¬ ((m : Int) = (n : Int)) := by omega
        simp [h, this]
    | negSucc n => simp [eqI]
  | negSucc m => cases b with
    | ofNat n => simp [eqI]
    | negSucc n =>
      simp only [eqI, beq_decide]
      by_cases h : m = n
      · subst h; simp
      · have : ¬ (Int.negSucc m = Int.negSucc n) := by omega
        simp [h]
omit [Rho] in
theorem blt_decide (a b : Nat) : Nat.blt a b = decide (a < b) := by
  cases h : Nat.blt a b with
  | true => have : a < b := Nat.le_of_ble_eq_true h; simp [this]
  | false => have : ¬ a < b := fun hh => by have := Nat.ble_eq_true_of_le hh; rw [Nat.blt, this] at h; cases h
             simp [this]
omit [Rho] in
theorem ltI_eq (a b : Int) : ltI a b = decide (a < b) := by
  cases a with
  | ofNat m => cases b with
    | ofNat n => simp only [ltI, blt_decide]; congr 1; simp
    | negSucc n => simp only [ltI]; symm; simp; omega
  | negSucc m => cases b with
    | ofNat n => simp only [ltI]; symm; simp; omega
    | negSucc n => simp only [ltI, blt_decide]; congr 1; apply propext; omega
def binI (op : BinOp) (k : IntKind) (a b : Int) : Option Value := match op with
  | .add => some (.int k (wrapF k (a + b)))
  | .sub => some (.int k (wrapF k (a - b)))
  | .mul => some (.int k (wrapF k (a * b)))
  | .quo => cond (eqI b 0) none (some (.int k (wrapF k (a.tdiv b))))
  | .rem => cond (eqI b 0) none (some (.int k (a.tmod b)))
  | .eql => some (.bool (eqI a b))
  | .neq => some (.bool (!eqI a b))
  | .lss => some (.bool (ltI a b))
  | .gtr => some (.bool (ltI b a))
  | .leq => some (.bool (!ltI b a))
  | .geq => some (.bool (!ltI a b))
  | _ => none
def bitsN : IntKind → Nat
  | .i8 | .u8 => 8
  | .i16 | .u16 => 16
  | .i32 | .u32 => 32
  | .i64 | .u64 => 64
def minN (a b : Nat) : Nat := cond (Nat.ble a b) a b
def shI (op : BinOp) (k : IntKind) : Int → Int → Option Value
  | .ofNat m, .ofNat n => match op with
    | .shl => some (.int k (wrapF k (.ofNat (m * 2 ^ minN n (bitsN k)))))
    | .shr => some (.int k (.ofNat (m / 2 ^ minN n (bitsN k))))
    | _ => none
  | _, _ => none
omit [Rho] in
theorem minN_eq (a b : Nat) : minN a b = min a b := by
  unfold minN
  cases h : Nat.ble a b with
  | true => have := Nat.le_of_ble_eq_true h; simp; omega
  | false => have : ¬ a ≤ b := fun hh => by rw [Nat.ble_eq_true_of_le hh] at h; cases h
             simp; omega
omit [Rho] in
theorem shI_ok {P : Program} {op : BinOp} {k k' : IntKind} {a b : Int} {v : Value} (h : shI op k a b = some v) (t : TypeId) (x y : Operand) (w : World) :
    (eqGuard op t x y (.int k a) (.int k' b)).run P w = .ok () w ∧ (binOp op t (.int k a) (.int k' b)).run P w = .ok v w := by
  refine ⟨by unfold eqGuard; cases op <;> simp, ?_⟩
  have hbits : bitsN k = k.bits := by cases k <;> rfl
  cases a with
  | negSucc m => cases b <;> simp [shI] at h
  | ofNat m =>
    cases b with
    | negSucc n => simp [shI] at h
    | ofNat n =>
      cases op <;> simp only [shI] at h <;> first
        | (cases h; done)
        | (injection h with h; subst h
           have hn : ¬ ((n : Int) < 0) := by omega
           have hp : (0 : Int) ≤ 2 ^ min n k.bits := Int.le_of_lt (Int.pow_pos (by decide))
           simp [binOp, Op.shift, wrapF_eq, minN_eq, hbits, hn, Int.fdiv_eq_ediv_of_nonneg _ hp])
def sameK : IntKind → IntKind → Bool
  | .i64, .i64 | .u64, .u64 | .u8, .u8 | .u32, .u32 | .i32, .i32 | .u16, .u16 | .i16, .i16 | .i8, .i8 => true
  | _, _ => false
omit [Rho] in
theorem sameK_eq {a b : IntKind} (h : sameK a b = true) : a = b := by cases a <;> cases b <;> first | rfl | (simp [sameK] at h)
omit [Rho] in
theorem binI_ok {P : Program} {op : BinOp} {k : IntKind} {a b : Int} {v : Value} (h : binI op k a b = some v) (t : TypeId) (x y : Operand) (w : World) :
    (eqGuard op t x y (.int k a) (.int k b)).run P w = .ok () w ∧ (binOp op t (.int k a) (.int k b)).run P w = .ok v w := by
  refine ⟨by unfold eqGuard; cases op <;> simp, ?_⟩
  have hb : eqI b 0 = false → ¬ b = 0 := fun h e => by rw [eqI_eq, e] at h; simp at h
  cases op <;> simp only [binI] at h <;> first
    | (cases h; done)
    | (injection h with h; subst h; simp [binOp, Op.intArith, Op.intCmp, wrapF_eq, eqI_eq, ltI_eq, bne]; done)
    | (injection h with h; subst h; simp [binOp, Op.intCmp, ltI_eq]; rw [← decide_not]; congr 1; apply propext; omega)
    | (cases hz : eqI b 0 with
       | true => rw [hz] at h; cases h
       | false => rw [hz] at h; injection h with h; subst h; simp [binOp, Op.intDiv, hb hz, wrapF_eq]; done)
def pUn (T : Tm) (op : UnOp) (x : Operand) : Option Value := match op, aev T x with
  | .not, some (.bool true) => some (.bool false)
  | .not, some (.bool false) => some (.bool true)
  | .neg, some (.int k n) => some (.int k (wrapF k (0 - n)))
  | _, _ => none
def pConv (e : Env) (T : Tm) (src dst : TypeId) (x : Operand) : Option Value := match e.tyOf src, e.tyOf dst, aev T x with
  | some _, some i, some (.int _ n) => match i.desc with
    | .int k => some (.int k (wrapF k n))
    | _ => none
  | _, _, _ => none
def pMinMax (T : Tm) (mx : Bool) (args : List Operand) : Option Value := match args with
  | [x, y] => match aev T x, aev T y with
    | some (.int k a), some (.int _ b) => some (.int k (cond mx (cond (ltI a b) b a) (cond (ltI b a) b a)))
    | _, _ => none
  | _ => none
def pureOp (e : Env) (T : Tm) : Op → Option Value
  | .move x | .assign x => aev T x
  | .pick c a b => pPick T c a b
  | .nilCheck x => pNil T x
  | .fieldAddr s x f => pFieldAddr e T s x f
  | .indexAddr t x ix => pIndexAddr e T t x ix
  | .slice t x lo hi mx => pSlice e T t x lo hi mx
  | .field t x f => pField e T t x f
  | .index t x ix => pIndex e T t x ix
  | .extract t ix => pExtract T t ix
  | .makeFunc fn first captured => pMakeFunc T fn first captured
  | .makeInterface t x => pMakeIface e T t x
  | .typeAssert x _ t ok => pAssert e T x t ok
  | .build t parts => pBuild e T t parts
  | .binOp .eql t x y _ => pEq e T t x y
  | .binOp .neq t x y _ => pNe e T t x y
  | .call ⟨.builtin .len, args, tys⟩ => pLen e T args tys
  | .call ⟨.builtin .max, args, _⟩ => pMinMax T true args.toList
  | .call ⟨.builtin .min, args, _⟩ => pMinMax T false args.toList
  | .unOp op _ x => pUn T op x
  | .convert src dst x => pConv e T src dst x
  | _ => none
theorem viaModel_ok {P : Program} {γ : Gam} {T : Tm} {n : Nat} {a : Act} (hT : TRel γ T n a.tmps) {o : Oper} {v : Value} (h : viaModel P T o = some v) (w : World) :
    VRel γ v v ∧ (execOp a.eval o).run P w = .ok (.value v) w := by
  unfold viaModel at h
  have hsel : ∀ cs b, o.op ≠ .select cs b := by intro cs b e; simp [e] at h
  have h : (cond (o.op.operands.toList.all fun x => match aev T x with | some v => plain 8 v | none => false)
      (match peek P (execOp (fun x => (aev T x).getD undef) o) with
        | some (.value v) => cond (plain 8 v) (some v) none
        | _ => none)
      none) = some v := by
    cases hop : o.op <;> first | (exact absurd hop (hsel _ _)) | (simp only [hop] at h ⊢; exact h)
  cases hall : (o.op.operands.toList.all fun x => match aev T x with | some v => plain 8 v | none => false) with
  | false => simp only [hall, cond] at h; cases h
  | true =>
    simp only [hall, cond] at h
    have hag : ∀ x ∈ o.op.operands, a.eval x = (fun x => (aev T x).getD undef) x := by
      intro x hx
      have hx' := List.all_eq_true.1 hall x (by simpa using hx)
      cases hv : aev T x with
      | none => simp [hv] at hx'
      | some u =>
        simp only [hv] at hx'
        have := plain_eq γ 8 u _ hx' (aev_rel hT hv)
        simp [this, hv]
    rw [execOp_congr o hsel hag]
    cases hp : peek P (execOp (fun x => (aev T x).getD undef) o) with
    | none => simp [hp] at h
    | some nx =>
      cases nx with
      | value u =>
        simp only [hp] at h
        cases hpl : plain 8 u with
        | false => simp only [hpl] at h; cases h
        | true =>
          simp only [hpl] at h
          injection h with h
          subst h
          exact ⟨plain_rel γ 8 _ hpl, peek_run P _ _ hp w⟩
      | _ => simp only [hp] at h; cases h
def evalPure (P : Program) (e : Env) (T : Tm) (o : Oper) : Option Value :=
  match o.op with
  | .binOp op _ x y _ => match aev T x, aev T y with
    | some (.int k a), some (.int k' b) => match shI op k a b with
      | some v => some v
      | none => cond (sameK k k') (match binI op k a b with
        | some v => some v
        | none => viaModel P T o) (viaModel P T o)
    | _, _ => match pureOp e T o.op with
      | some v => some v
      | none => viaModel P T o
  | _ => match pureOp e T o.op with
    | some v => some v
    | none => viaModel P T o
end Go.Ev
namespace Go.Ev
open Go Go.RowKit
variable [Rho]
/-- An inversion at a pointer, a slice, an aggregate. -/
theorem VRel.ptr_inv {γ : Gam} {b o : Nat} {v' : Value} (h : VRel γ (.pointer (some ⟨b, o, none⟩)) v') : ∃ B O C, γ b = some (B, O, C) ∧ v' = .pointer (some ⟨B, O + o, none⟩) := by
  cases h with
  | ptr o h => exact ⟨_, _, _, h, rfl⟩
theorem VRel.slice_inv {γ : Gam} {b o n c : Nat} {v' : Value} (h : VRel γ (.slice (some ⟨b, o, none⟩) n c) v') : ∃ B O C, γ b = some (B, O, C) ∧ n ≤ capOf C c ∧ v' = .slice (some ⟨B, O + o, none⟩) n (capOf C c) := by
  cases h with
  | slice o n c h hn => exact ⟨_, _, _, h, hn, rfl⟩
theorem VRel.agg_inv {γ : Gam} {cs : Array Value} {v' : Value} (h : VRel γ (.agg cs) v') : ∃ cs', v' = .agg cs' ∧ LRel γ cs.toList cs'.toList := by
  cases h with
  | agg f f' hs hv => exact ⟨f', rfl, ARel.toList ⟨hs, hv⟩⟩
theorem VRel.tuple_inv {γ : Gam} {cs : Array Value} {v' : Value} (h : VRel γ (.tuple cs) v') : ∃ cs', v' = .tuple cs' ∧ LRel γ cs.toList cs'.toList := by
  cases h with
  | tuple f f' hs hv => exact ⟨f', rfl, ARel.toList ⟨hs, hv⟩⟩
theorem VRel.int_inv {γ : Gam} {k : IntKind} {n : Int} {v' : Value} (h : VRel γ (.int k n) v') : v' = .int k n := by cases h; rfl
theorem VRel.bool_inv {γ : Gam} {b : Bool} {v' : Value} (h : VRel γ (.bool b) v') : v' = .bool b := by cases h; rfl
theorem VRel.iface_inv {γ : Gam} {t : TypeId} {v v' : Value} (h : VRel γ (.iface t v) v') : ∃ u, v' = .iface t u ∧ VRel γ v u := by
  cases h with
  | iface t h => exact ⟨_, rfl, h⟩
section
variable {P : Program} {e : Env} (he : Env.Ok P e) {γ : Gam}
include he
theorem part_ok {t : TypeId} {i : TI} (hi : e.tyOf t = some i) {cs : Array Value} {cs' : Array Value} (hc : LRel γ cs.toList cs'.toList) {off : Nat} {v : Value} (h : partL i cs.toList off = some v) (w : World) :
    ∃ v', VRel γ v v' ∧ (part t cs' off).run P w = .ok v' w := by
  unfold partL at h
  cases ha : isAggD i.desc with
  | true =>
    simp only [ha, cond_true, cond_false] at h
    injection h with h
    subst h
    refine ⟨.agg (cs'.extract off (off + i.size)), ?_, ?_⟩
    · have : (cs'.extract off (off + i.size)) = ((cs'.toList.drop off).take i.size).toArray := by
        apply Array.ext'
        simp [Array.toList_extract, List.extract]
      rw [this]
      exact VRel.aggOf ((hc.drop _).take _)
    · simp [part, ok_isAgg he hi, ok_sizeOf he hi, ha]
  | false =>
    simp only [ha, cond_true, cond_false] at h
    obtain ⟨v', h1, h2⟩ := hc.get h
    refine ⟨v', h2, ?_⟩
    have h1' : cs'[off]? = some v' := by simpa using h1
    simp [part, ok_isAgg he hi, ha, h1']
theorem places_ok : ∀ (fs : List Field) (r : List (Nat × Nat)), placesL e fs = some r → fs.mapM (fun f => (P.info? f.type).map fun i => (f.offset, i.size)) = some r
  | [], r, h => by simp [placesL] at h; subst h; simp
  | f :: fs, r, h => by
    simp only [placesL] at h
    cases hi : e.tyOf f.type with
    | none => simp [hi] at h
    | some i =>
      cases hr : placesL e fs with
      | none => simp [hi, hr] at h
      | some r' =>
        simp [hi, hr] at h
        subst h
        obtain ⟨_, j, hj, hs, _, _⟩ := he.ty _ _ hi
        simp [List.mapM_cons, hj, hs, places_ok fs r' hr]
end
omit [Rho] in
theorem capOf_exact {C c : Nat} (h : c < openCap) : capOf C c = c := by simp [capOf, h]
omit [Rho] in
theorem capOf_open {C c : Nat} (h : openCap ≤ c) : capOf C c = C - (c - openCap) := by simp [capOf, Nat.not_lt.2 h]
omit [Rho] in
theorem natOf_inv {o : Option Value} {r : Option Nat} (h : natOf o = some r) : (o = none ∧ r = none) ∨ ∃ (k : IntKind) (n : Nat), o = some (.int k (n : Int)) ∧ r = some n := by
  unfold natOf at h
  split at h
  · left; simp at h; exact ⟨rfl, h.symm⟩
  · right; simp at h; exact ⟨_, _, rfl, h.symm⟩
  · simp at h
theorem optOp_rel {γ : Gam} {T : Tm} {n : Nat} {a : Act} (hT : TRel γ T n a.tmps) {x : Option Operand} {r : Option Nat} {v : Option Value} (h : optOp T x = some v) (hn : natOf v = some r) :
    (x.map a.eval = none ∧ r = none) ∨ ∃ (k : IntKind) (m : Nat), x.map a.eval = some (.int k (m : Int)) ∧ r = some m := by
  cases x with
  | none => simp [optOp] at h; subst h; simp [natOf] at hn; exact .inl ⟨rfl, hn.symm⟩
  | some y =>
    simp only [optOp] at h
    cases hy : aev T y with
    | none => simp [hy] at h
    | some u =>
      simp [hy] at h
      subst h
      rcases natOf_inv hn with ⟨h1, _⟩ | ⟨k, m, h1, rfl⟩
      · cases h1
      · injection h1 with h1
        subst h1
        have := (aev_rel hT hy).int_inv
        exact .inr ⟨k, m, by simp [this], rfl⟩
omit [Rho] in
theorem bound_ok {P : Program} {w : World} (k : IntKind) (m y : Nat) (code : BoundsCode) (h : m ≤ y) : (Instr.sliceBound (.int k (m : Int)) y code).run P w = .ok m w := by
  have h' : (0 : Int) ≤ (m : Int) ∧ (m : Int) ≤ (y : Int) := ⟨by omega, by omega⟩
  simp [Instr.sliceBound, asIntOf, h']
omit [Rho] in
theorem emptyTail_ok {P : Program} {w : World} {lo hi mx : Option Value} {l h m : Option Nat} {n c C : Nat} (hn : n ≤ capOf C c)
    (hl : (lo = none ∧ l = none) ∨ ∃ (k : IntKind) (j : Nat), lo = some (.int k (j : Int)) ∧ l = some j) (hh : (hi = none ∧ h = none) ∨ ∃ (k : IntKind) (j : Nat), hi = some (.int k (j : Int)) ∧ h = some j)
    (hm : (mx = none ∧ m = none) ∨ ∃ (k : IntKind) (j : Nat), mx = some (.int k (j : Int)) ∧ m = some j) (he : emptyTail n c l h m = true) :
    (Instr.sliceBounds true n (capOf C c) lo hi mx).run P w = .ok (n, n, capOf C c) w := by
  unfold emptyTail at he
  split at he
  · rename_i l0
    rcases hm with ⟨rfl, _⟩ | ⟨_, _, _, hx⟩
    · rcases hl with ⟨_, hx⟩ | ⟨kl, jl, rfl, hx⟩
      · cases hx
      · injection hx with hx
        subst hx
        cases h1 : Nat.ble openCap c with
        | false => rw [h1] at he; cases he
        | true =>
          cases h2 : Nat.beq l0 n with
          | false => rw [h1, h2] at he; cases he
          | true =>
            rw [h1, h2] at he
            have h2' := Nat.eq_of_beq_eq_true h2
            subst h2'
            have he' := Nat.eq_of_beq_eq_true he
            rcases hh with ⟨rfl, rfl⟩ | ⟨kh, jh, rfl, rfl⟩
            · simp [Instr.sliceBounds, bound_ok (P := P) (w := w) kl l0 l0 .sliceB (Nat.le_refl _)]
            · simp only [Option.getD_some] at he'
              subst he'
              simp [Instr.sliceBounds, bound_ok (P := P) (w := w) kh jh (capOf C c) .sliceAcap hn, bound_ok (P := P) (w := w) kl jh jh .sliceB (Nat.le_refl _)]
    · cases hx
  · cases he
omit [Rho] in
theorem slice_ok {P : Program} {w : World} {lo hi mx : Option Value} {l h m : Option Nat} {o n c size C : Nat} {r : Nat × Nat × Nat} (hn : n ≤ capOf C c)
    (hl : (lo = none ∧ l = none) ∨ ∃ (k : IntKind) (j : Nat), lo = some (.int k (j : Int)) ∧ l = some j) (hh : (hi = none ∧ h = none) ∨ ∃ (k : IntKind) (j : Nat), hi = some (.int k (j : Int)) ∧ h = some j)
    (hm : (mx = none ∧ m = none) ∨ ∃ (k : IntKind) (j : Nat), mx = some (.int k (j : Int)) ∧ m = some j) (hmh : (m.isSome && h.isNone) = false) (hs : sliceL o n c size l h m = some r) :
    ∃ L H M, (Instr.sliceBounds true n (capOf C c) lo hi mx).run P w = .ok (L, H, M) w ∧ r.2.1 = H - L ∧ capOf C r.2.2 = M - L ∧ r.2.1 ≤ M - L ∧ (if M = L then o else o + L * size) = r.1 := by
  unfold sliceL at hs
  rcases hm with ⟨rfl, rfl⟩ | ⟨km, jm, rfl, rfl⟩
  · -- no max
    simp only at hs
    cases hop : Nat.ble openCap c with
    | true =>
      have hop' : openCap ≤ c := Nat.le_of_ble_eq_true hop
      simp only [hop, cond_true, cond_false] at hs
      cases h1 : Nat.ble (h.getD n) n with
      | false => simp only [h1] at hs; cases hs
      | true =>
        cases h2 : Nat.ble (l.getD 0) (h.getD n) with
        | false => simp only [h1, h2] at hs; cases hs
        | true =>
          simp only [h1, h2] at hs
          have h1' := Nat.le_of_ble_eq_true h1
          have h2' := Nat.le_of_ble_eq_true h2
          have hcap : capOf C (c + l.getD 0) = capOf C c - l.getD 0 := by rw [capOf_open hop', capOf_open (by omega)]; omega
          refine ⟨l.getD 0, h.getD n, capOf C c, ?_, ?_⟩
          · rcases hl with ⟨rfl, rfl⟩ | ⟨kl, jl, rfl, rfl⟩ <;> rcases hh with ⟨rfl, rfl⟩ | ⟨kh, jh, rfl, rfl⟩ <;> simp at h1' h2' ⊢
            · simp [Instr.sliceBounds]
            · simp [Instr.sliceBounds, bound_ok (P := P) (w := w) kh jh (capOf C c) .sliceAcap (by omega)]
            · simp [Instr.sliceBounds, bound_ok (P := P) (w := w) kl jl n .sliceB (by omega)]
            · simp [Instr.sliceBounds, bound_ok (P := P) (w := w) kh jh (capOf C c) .sliceAcap (by omega), bound_ok (P := P) (w := w) kl jl jh .sliceB (by omega)]
          · cases h3 : Nat.beq (l.getD 0) 0 with
            | true =>
              have h3' := Nat.eq_of_beq_eq_true h3
              simp only [h3] at hs
              injection hs with hs
              subst hs
              simp [h3']
              omega
            | false =>
              simp only [h3] at hs
              cases h4 : Nat.blt (l.getD 0) n with
              | false => simp only [h4] at hs; cases hs
              | true =>
                simp only [h4] at hs
                injection hs with hs
                subst hs
                have h4' : l.getD 0 < n := Nat.le_of_ble_eq_true h4
                refine ⟨rfl, hcap, by simp; omega, ?_⟩
                rw [if_neg (by omega)]
    | false =>
      have hop' : c < openCap := by
        rcases Nat.lt_or_ge c openCap with h | h
        · exact h
        · have := Nat.ble_eq_true_of_le h; rw [this] at hop; cases hop
      simp only [hop, cond_true, cond_false] at hs
      have hcc : capOf C c = c := capOf_exact hop'
      rw [hcc] at hn ⊢
      cases h1 : Nat.ble (h.getD n) c with
      | false => simp only [h1] at hs; cases hs
      | true =>
        cases h2 : Nat.ble (l.getD 0) (h.getD n) with
        | false => simp only [h1, h2] at hs; cases hs
        | true =>
          simp only [h1, h2] at hs
          have h1' := Nat.le_of_ble_eq_true h1
          have h2' := Nat.le_of_ble_eq_true h2
          injection hs with hs
          subst hs
          refine ⟨l.getD 0, h.getD n, c, ?_, rfl, capOf_exact (Nat.lt_of_le_of_lt (Nat.sub_le _ _) hop'), by simp; omega, ?_⟩
          · rcases hl with ⟨rfl, rfl⟩ | ⟨kl, jl, rfl, rfl⟩ <;> rcases hh with ⟨rfl, rfl⟩ | ⟨kh, jh, rfl, rfl⟩ <;> simp at h1' h2' ⊢
            · simp [Instr.sliceBounds]
            · simp [Instr.sliceBounds, bound_ok (P := P) (w := w) kh jh c .sliceAcap (by omega)]
            · simp [Instr.sliceBounds, bound_ok (P := P) (w := w) kl jl n .sliceB (by omega)]
            · simp [Instr.sliceBounds, bound_ok (P := P) (w := w) kh jh c .sliceAcap (by omega), bound_ok (P := P) (w := w) kl jl jh .sliceB (by omega)]
          · cases h3 : Nat.beq c (l.getD 0) with
            | true => have := Nat.eq_of_beq_eq_true h3; simp [this]
            | false => have := Nat.ne_of_beq_eq_false h3; simp [this]
  · -- with max
    cases hh0 : h with
    | none => rw [hh0] at hmh; simp at hmh
    | some hv =>
      subst hh0
      rcases hh with ⟨_, hx⟩ | ⟨kh, jh, rfl, hx⟩
      · cases hx
      · injection hx with hx
        subst hx
        simp only [Option.getD_some] at hs
        cases h0 : Nat.blt jm openCap with
        | false => simp only [h0, cond_true, cond_false] at hs; cases hs
        | true =>
          cases h1 : Nat.ble jm (cond (Nat.ble openCap c) n c) with
          | false => simp only [h0, h1, cond_true, cond_false] at hs; cases hs
          | true =>
            cases h2 : Nat.ble hv jm with
            | false => simp only [h0, h1, h2, cond_true, cond_false] at hs; cases hs
            | true =>
              cases h3 : Nat.ble (l.getD 0) hv with
              | false => simp only [h0, h1, h2, h3, cond_true, cond_false] at hs; cases hs
              | true =>
                simp only [h0, h1, h2, h3, cond_true, cond_false] at hs
                have h0' : jm < openCap := Nat.le_of_ble_eq_true h0
                have h1' := Nat.le_of_ble_eq_true h1
                have h2' := Nat.le_of_ble_eq_true h2
                have h3' := Nat.le_of_ble_eq_true h3
                have hmc : jm ≤ capOf C c := by
                  cases hop : Nat.ble openCap c with
                  | true => simp only [hop, cond_true, cond_false] at h1'; omega
                  | false =>
                    simp only [hop, cond_true, cond_false] at h1'
                    have hop' : c < openCap := by
                      rcases Nat.lt_or_ge c openCap with h | h
                      · exact h
                      · have := Nat.ble_eq_true_of_le h; rw [this] at hop; cases hop
                    rw [capOf_exact hop']; exact h1'
                injection hs with hs
                subst hs
                refine ⟨l.getD 0, hv, jm, ?_, rfl, capOf_exact (Nat.lt_of_le_of_lt (Nat.sub_le _ _) h0'), by simp; omega, ?_⟩
                · rcases hl with ⟨rfl, rfl⟩ | ⟨kl, jl, rfl, rfl⟩ <;> simp at h3' ⊢
                  · simp [Instr.sliceBounds, bound_ok (P := P) (w := w) km jm (capOf C c) .slice3Acap hmc, bound_ok (P := P) (w := w) kh hv jm .slice3B h2']
                  · simp [Instr.sliceBounds, bound_ok (P := P) (w := w) km jm (capOf C c) .slice3Acap hmc, bound_ok (P := P) (w := w) kh hv jm .slice3B h2', bound_ok (P := P) (w := w) kl jl hv .slice3C h3']
                · cases h4 : Nat.beq jm (l.getD 0) with
                  | true => have := Nat.eq_of_beq_eq_true h4; simp [this]
                  | false => have := Nat.ne_of_beq_eq_false h4; simp [this]
end Go.Ev
namespace Go.Ev
open Go Go.RowKit
variable [Rho]
theorem nilEq_ok {P : Program} {γ : Gam} {t : TypeId} {d : TypeDesc} (hd : P.underlying t = some d) {v u v' u' : Value} (hv : VRel γ v v') (hu : VRel γ u u') (h1 : nilDesc d v = true) (h2 : nilDesc d u = true)
    {b : Bool} (h : nilEq v u = some b) (w : World) : (Op.equal t v' u').run P w = .ok b w := by
  obtain ⟨k, hk⟩ : ∃ k, Op.maxDepth = k + 1 := ⟨9999, rfl⟩
  unfold nilEq at h
  split at h <;> (try (cases h; done)) <;> (injection h with h; subst h) <;> cases hv <;> cases hu <;>
    (cases d <;> simp [nilDesc] at h1 h2 <;> simp [Op.equal, hk, Op.equalIn, run_underlying hd])
theorem eqGuard_nil {P : Program} {γ : Gam} {t : TypeId} {v u v' u' : Value} (op : BinOp) (x y : Operand) (hv : VRel γ v v') (hu : VRel γ u u') {b : Bool} (h : nilEq v u = some b) (w : World) :
    (eqGuard op t x y v' u').run P w = .ok () w := by
  unfold nilEq at h
  split at h <;> (try (cases h; done)) <;> cases hv <;> cases hu <;> (unfold eqGuard; cases op <;> simp)
theorem binEq_ok {P : Program} {γ : Gam} {t : TypeId} {d : TypeDesc} (hd : P.underlying t = some d) {v u v' u' : Value} (hv : VRel γ v v') (hu : VRel γ u u') (h1 : nilDesc d v = true) (h2 : nilDesc d u = true)
    {b : Bool} (h : nilEq v u = some b) (w : World) : (binOp .eql t v' u').run P w = .ok (.bool b) w ∧ (binOp .neq t v' u').run P w = .ok (.bool !b) w := by
  have he := nilEq_ok hd hv hu h1 h2 h w
  unfold nilEq at h
  split at h <;> (try (cases h; done)) <;> cases hv <;> cases hu <;> (constructor <;> simp [binOp, he])
theorem viaRefl {γ : Gam} {op : BinOp} {k : IntKind} {a b : Int} {v : Value} (h : binI op k a b = some v) : VRel γ v v := by
  cases op <;> simp only [binI] at h <;> first
    | (cases h; done)
    | (injection h with h; subst h; first | exact .int _ _ | exact .bool _)
    | (cases hz : eqI b 0 with
       | true => rw [hz] at h; cases h
       | false => rw [hz] at h; injection h with h; subst h; exact .int _ _)
theorem shRefl {γ : Gam} {op : BinOp} {k : IntKind} {a b : Int} {v : Value} (h : shI op k a b = some v) : VRel γ v v := by
  unfold shI at h
  split at h
  · cases op <;> simp only at h <;> first
      | (cases h; done)
      | (injection h with h; subst h; exact .int _ _)
  · cases h
section
variable {P : Program} {e : Env} (he : Env.Ok P e) {γ : Gam} {T : Tm} {n : Nat} {a : Act} (hT : TRel γ T n a.tmps)
include he hT
theorem pureOp_ok {o : Oper} {v : Value} (h : pureOp e T o.op = some v) (w : World) : ∃ v', VRel γ v v' ∧ (execOp a.eval o).run P w = .ok (.value v') w := by
  obtain ⟨dst, op, type, pos, after, guard⟩ := o
  simp only at h
  unfold pureOp at h
  split at h
  · exact ⟨_, aev_rel hT h, rfl⟩
  · exact ⟨_, aev_rel hT h, rfl⟩
  · -- pick
    rename_i c x y
    unfold pPick at h
    split at h
    · rename_i t hc
      have hb := (aev_rel hT hc).bool_inv
      cases t with
      | true => exact ⟨_, aev_rel hT h, by simp [execOp, hb, asBool]⟩
      | false => exact ⟨_, aev_rel hT h, by simp [execOp, hb, asBool]⟩
    · cases h
  · -- nilCheck
    rename_i x
    unfold pNil at h
    split at h
    · rename_i p hx
      injection h with h; subst h
      have hr := aev_rel hT hx
      refine ⟨_, hr, ?_⟩
      generalize hx' : a.eval x = x' at hr
      cases hr
      simp [execOp, hx']
    · rename_i p q r hx
      injection h with h; subst h
      have hr := aev_rel hT hx
      refine ⟨_, hr, ?_⟩
      generalize hx' : a.eval x = x' at hr
      cases hr <;> simp [execOp, hx']
    · rename_i f fi ca hx
      injection h with h; subst h
      have hr := aev_rel hT hx
      refine ⟨_, hr, ?_⟩
      generalize hx' : a.eval x = x' at hr
      cases hr
      simp [execOp, hx']
    · cases h
  · -- fieldAddr
    rename_i s x f
    unfold pFieldAddr at h
    split at h
    · rename_i i b o hi hx
      split at h
      · rename_i fields hd
        split at h
        · rename_i fl hf
          split at h
          · rename_i j hj
            cases hz : Nat.beq j.size 0 with
            | true => simp only [hz, cond_true] at h; cases h
            | false =>
              simp only [hz, cond_false] at h
              injection h with h; subst h
              obtain ⟨B, O, C, hb, hx'⟩ := (aev_rel hT hx).ptr_inv
              have hz' := Nat.ne_of_beq_eq_false hz
              have hf' : fields[f]? = some fl := by simpa using hf
              have hu := ok_underlying he hi
              rw [hd] at hu
              have hpl : (fieldPlace ⟨B, O + o, none⟩ fl).run P w = .ok ⟨B, O + (o + fl.offset), none⟩ w := by
                simp [fieldPlace, ok_sizeOf he hj, hz', Addr.add_mid, Nat.add_assoc]
              exact ⟨_, .ptr (o + fl.offset) hb, by simp [execOp, Instr.fieldAt, hu, hf', hx', Instr.sureAddr, hpl]⟩
          · cases h
        · cases h
      · cases h
    · cases h
  · -- indexAddr
    rename_i t x ix
    unfold pIndexAddr at h
    split at h
    · rename_i i b o m c k j hi hx hix
      split at h
      · rename_i el hd
        split at h
        · rename_i te hte
          cases hlt : Nat.blt j m with
          | false => simp only [hlt, cond_false] at h; cases h
          | true =>
            simp only [hlt, cond_true] at h
            injection h with h; subst h
            obtain ⟨B, O, C, hb, hn, hx'⟩ := (aev_rel hT hx).slice_inv
            have hix' := (aev_rel hT hix).int_inv
            have hlt' : j < m := Nat.le_of_ble_eq_true hlt
            have hu := ok_underlying he hi
            rw [hd] at hu
            refine ⟨_, .ptr (o + j * te.size) hb, ?_⟩
            have hb2 : (0 : Int) ≤ (Int.ofNat j) ∧ (Int.ofNat j) < (m : Int) := ⟨by simp, by simp; omega⟩
            simp only [execOp, Instr.indexAt, hx', hix', asIntOf, Sem.run_bind, Sem.run_pure, Result.andThen_ok, hu]
            simp [hlt', ok_sizeOf he hte, Addr.add_mid, Nat.add_assoc]
        · cases h
      · cases h
    · rename_i i b o k j hi hx hix
      split at h
      · rename_i m el hd
        split at h
        · rename_i te hte
          cases hlt : Nat.blt j m with
          | false => simp only [hlt, cond_false] at h; cases h
          | true =>
            simp only [hlt, cond_true] at h
            injection h with h; subst h
            obtain ⟨B, O, C, hb, hx'⟩ := (aev_rel hT hx).ptr_inv
            have hix' := (aev_rel hT hix).int_inv
            have hlt' : j < m := Nat.le_of_ble_eq_true hlt
            have hu := ok_underlying he hi
            rw [hd] at hu
            refine ⟨_, .ptr (o + j * te.size) hb, ?_⟩
            simp only [execOp, Instr.indexAt, hx', hix', asIntOf, Sem.run_bind, Sem.run_pure, Result.andThen_ok, hu, Instr.sureAddr]
            simp [hlt', ok_sizeOf he hte, Addr.add_mid, Nat.add_assoc]
        · cases h
      · cases h
    · cases h
  · -- slice
    rename_i t x lo hi mx
    unfold pSlice at h
    split at h
    · rename_i i b o m c vlo vhi vmx hi' hx hlo hhi hmx
      split at h
      · rename_i el hd
        split at h
        · rename_i te nlo nhi nmx hte hnlo hnhi hnmx
          cases hmh : (nmx.isSome && nhi.isNone) with
          | true => simp only [hmh, cond_true] at h; cases h
          | false =>
            simp only [hmh, cond_false] at h
            split at h
            · rename_i o' n' c' hs
              injection h with h; subst h
              obtain ⟨B, O, C, hb, hn, hx'⟩ := (aev_rel hT hx).slice_inv
              obtain ⟨L, H, M, hr, h1, h2, h3, h4⟩ := slice_ok (P := P) (w := w) hn (optOp_rel hT hlo hnlo) (optOp_rel hT hhi hnhi) (optOp_rel hT hmx hnmx) hmh hs
              simp only at h1 h2 h3 h4
              have hu := ok_underlying he hi'
              rw [hd] at hu
              have hv : VRel γ (.slice (some ⟨b, o', none⟩) n' c') (.slice (some ⟨B, O + o', none⟩) n' (capOf C c')) := .slice o' n' c' hb (by rw [h2]; exact h3)
              refine ⟨_, hv, ?_⟩
              have hadd : (⟨B, O + o, none⟩ : Addr).add (L * te.size) = ⟨B, O + o + L * te.size, none⟩ := Addr.add_mid _ _ _
              have hif : (if M = L then some (⟨B, O + o, none⟩ : Addr) else (some (⟨B, O + o, none⟩ : Addr)).map (·.add (L * te.size))) = some ⟨B, O + o', none⟩ := by
                rw [← h4]
                split
                · rfl
                · simp [hadd, Nat.add_assoc]
              simp only [execOp, Instr.sliceAt, Sem.run_bind, hu, Result.andThen_ok, Instr.slice, hx', hr, ok_sizeOf he hte, Sem.run_pure, hif, ← h1, ← h2]
            · cases het : emptyTail m c nlo nhi nmx with
              | false => rw [het] at h; cases h
              | true =>
                rw [het, cond_true] at h
                injection h with h; subst h
                obtain ⟨B, O, C, hb, hn, hx'⟩ := (aev_rel hT hx).slice_inv
                have hr := emptyTail_ok (P := P) (w := w) hn (optOp_rel hT hlo hnlo) (optOp_rel hT hhi hnhi) (optOp_rel hT hmx hnmx) het
                have hu := ok_underlying he hi'
                rw [hd] at hu
                have hif : (if capOf C c = m then some (⟨B, O + o, none⟩ : Addr) else (some (⟨B, O + o, none⟩ : Addr)).map (·.add (m * te.size))) = some (if capOf C c = m then ⟨B, O + o, none⟩ else (⟨B, O + o, none⟩ : Addr).add (m * te.size)) := by
                  split <;> rfl
                refine ⟨_, .slicee (if capOf C c = m then ⟨B, O + o, none⟩ else (⟨B, O + o, none⟩ : Addr).add (m * te.size)) (capOf C c - m), ?_⟩
                simp only [execOp, Instr.sliceAt, Sem.run_bind, hu, Result.andThen_ok, Instr.slice, hx', hr, ok_sizeOf he hte, Sem.run_pure, hif, Nat.sub_self]
        · cases h
      · cases h
    · cases h
  · -- field
    rename_i t x f
    unfold pField at h
    split at h
    · rename_i i cs hi hx
      split at h
      · rename_i fields hd
        split at h
        · rename_i fl hf
          split at h
          · rename_i j hj
            obtain ⟨cs', hx', hc⟩ := (aev_rel hT hx).agg_inv
            have hf' : fields[f]? = some fl := by simpa using hf
            have hu := ok_underlying he hi
            rw [hd] at hu
            obtain ⟨v', hv', hr⟩ := part_ok he hj hc h w
            exact ⟨v', hv', by simp [execOp, Instr.field, hu, hf', hx', asAgg, hr]⟩
          · cases h
        · cases h
      · cases h
    · cases h
  · -- index
    rename_i t x ix
    unfold pIndex at h
    split at h
    · rename_i i cs k j hi hx hix
      split at h
      · rename_i m el hd
        split at h
        · rename_i te hte
          cases hlt : Nat.blt j m with
          | false => simp only [hlt, cond_false] at h; cases h
          | true =>
            simp only [hlt, cond_true] at h
            obtain ⟨cs', hx', hc⟩ := (aev_rel hT hx).agg_inv
            have hix' := (aev_rel hT hix).int_inv
            have hlt' : j < m := Nat.le_of_ble_eq_true hlt
            have hu := ok_underlying he hi
            rw [hd] at hu
            obtain ⟨v', hv', hr⟩ := part_ok he hte hc h w
            refine ⟨v', hv', ?_⟩
            simp only [execOp, Instr.index, hx', hix', asIntOf, Sem.run_bind, Sem.run_pure, Result.andThen_ok, hu]
            simp [hlt', ok_sizeOf he hte, hr]
        · cases h
      · cases h
    · cases h
  · -- extract
    rename_i t ix
    unfold pExtract at h
    split at h
    · rename_i vs hx
      obtain ⟨vs', hx', hc⟩ := (aev_rel hT hx).tuple_inv
      obtain ⟨v', h1, h2⟩ := hc.get h
      have h1' : vs'[ix]? = some v' := by simpa using h1
      exact ⟨v', h2, by simp [execOp, Instr.extract, hx', h1']⟩
    · cases h
  · -- makeFunc
    rename_i fn first captured
    unfold pMakeFunc at h
    cases hy : isYield fn with
    | true => simp only [hy, cond_true] at h; cases h
    | false =>
      simp only [hy, cond_false] at h
      split at h
      · rename_i f c hf hc
        injection h with h; subst h
        have rf := (aevs_rel hT hf).toArray
        have rc := (aevs_rel hT hc).toArray
        refine ⟨_, .func fn (fun l e => by subst e; simp [isYield] at hy) _ _ _ _ rf.1 rf.2 rc.1 rc.2, ?_⟩
        have e1 : first.map a.eval = (first.toList.map a.eval).toArray := by apply Array.ext'; simp
        have e2 : captured.map a.eval = (captured.toList.map a.eval).toArray := by apply Array.ext'; simp
        simp only [execOp, Instr.makeFunc, e1, e2, Sem.run_bind, Sem.run_pure, Result.andThen_ok]
      · cases h
  · -- makeInterface
    rename_i t x
    unfold pMakeIface at h
    split at h
    · rename_i i u hi hx
      have hu := ok_underlying he hi
      cases hd : i.desc <;> rw [hd] at h hu <;> simp only at h <;> first
        | (cases h; done)
        | (injection h with h; subst h; exact ⟨_, .iface t (aev_rel hT hx), by simp [execOp, Instr.makeInterface, hu]⟩)
    · cases h
  · -- typeAssert
    rename_i x xt t ok
    unfold pAssert at h
    split at h
    · rename_i i u v0 hi hx
      have hu := ok_underlying he hi
      obtain ⟨u', hx', hv'⟩ := (aev_rel hT hx).iface_inv
      cases hb : Nat.beq u t with
      | false => cases hd : i.desc <;> rw [hd] at h <;> simp only [hb, cond_false] at h <;> cases h
      | true =>
        have hb' := Nat.eq_of_beq_eq_true hb
        subst hb'
        cases ok with
        | true =>
          refine ⟨.tuple #[u', .bool true], ?_, ?_⟩
          · have : VRel γ (.tuple [v0, .bool true].toArray) (.tuple [u', .bool true].toArray) := VRel.tupleOf (.cons hv' (.cons (.bool true) (.nil γ)))
            cases hd : i.desc <;> rw [hd] at h <;> simp only [hb, cond_true] at h <;> first
              | (cases h; done)
              | (injection h with h; subst h; exact this)
          · cases hd : i.desc <;> rw [hd] at h hu <;> simp only at h <;> first
              | (cases h; done)
              | simp [execOp, Instr.typeAssert, hu, hx']
        | false =>
          refine ⟨u', ?_, ?_⟩
          · cases hd : i.desc <;> rw [hd] at h <;> simp only [hb, cond_true, cond_false] at h <;> first
              | (cases h; done)
              | (injection h with h; subst h; exact hv')
          · cases hd : i.desc <;> rw [hd] at h hu <;> simp only at h <;> first
              | (cases h; done)
              | simp [execOp, Instr.typeAssert, hu, hx']
    · cases h
  · -- build
    rename_i t parts
    unfold pBuild at h
    split at h
    · rename_i i vs hi hvs
      split at h
      · rename_i z hz
        cases hp : plain 8 z with
        | false => simp only [hp, cond_false] at h; cases h
        | true =>
          simp only [hp, cond_true] at h
          have hrel := aevs_rel hT hvs
          obtain ⟨hdesc, j, hj, hjs, hjb, hjz⟩ := he.ty t i hi
          have hzc : LRel γ z.cells.toList z.cells.toList := (plain_rel γ 8 z hp).cells
          have hlen : vs.length = parts.size := by have := hrel.1; simpa using this
          have hfst : ((parts.toList.map (·.1)).zip vs).map (·.1) = ((parts.map fun (i, x) => (i, a.eval x)).toList).map (·.1) := by
            rw [List.map_fst_zip (by simp; omega)]
            simp [Array.toList_map, Function.comp_def]
          have hsnd : LRel γ (((parts.toList.map (·.1)).zip vs).map (·.2)) (((parts.map fun (i, x) => (i, a.eval x)).toList).map (·.2)) := by
            rw [List.map_snd_zip (by simp; omega)]
            have e : ((parts.map fun (i, x) => (i, a.eval x)).toList).map (·.2) = (parts.toList.map (·.2)).map a.eval := by simp [Array.toList_map, Function.comp_def]
            rw [e]
            exact hrel
          split at h
          · rename_i fields hd
            split at h
            · rename_i pl hpl
              split at h
              · rename_i r hr
                injection h with h; subst h
                obtain ⟨r', h1, h2⟩ := fill_rel (γ := γ) (pl[·]?) _ _ _ _ _ hfst hsnd hzc hr
                refine ⟨.agg r', ?_, ?_⟩
                · have := VRel.aggOf h2; simpa using this
                · have hb : P.built t (parts.map fun (i, x) => (i, a.eval x)).toList = some r' := by
                    simp only [Program.built, hj, hdesc, hd, hjz, hz, places_ok he _ _ hpl]
                    simpa using h1
                  simp only [execOp, Sem.run_bind, run_build w t _ r' hb, Result.andThen_ok, Sem.run_pure]
              · cases h
            · cases h
          · rename_i m el hd
            split at h
            · rename_i te hte
              split at h
              · rename_i r hr
                injection h with h; subst h
                obtain ⟨r', h1, h2⟩ := fill_rel (γ := γ) (fun i => some (i * te.size, te.size)) _ _ _ _ _ hfst hsnd hzc hr
                refine ⟨.agg r', ?_, ?_⟩
                · have := VRel.aggOf h2; simpa using this
                · obtain ⟨_, je, hje, hjes, _, _⟩ := he.ty el te hte
                  have hb : P.built t (parts.map fun (i, x) => (i, a.eval x)).toList = some r' := by
                    simp only [Program.built, hj, hdesc, hd, hjz, hz, hje, hjes]
                    exact h1
                  simp only [execOp, Sem.run_bind, run_build w t _ r' hb, Result.andThen_ok, Sem.run_pure]
              · cases h
            · cases h
          · cases h
      · cases h
    · cases h
  · -- eql
    rename_i t x y yt
    unfold pEq at h
    split at h
    · rename_i i v0 u0 hi hx hy
      cases hc : (nilDesc i.desc v0 && nilDesc i.desc u0) with
      | false => simp only [hc, cond_false] at h; cases h
      | true =>
        simp only [hc, cond_true] at h
        simp only [Bool.and_eq_true] at hc
        cases hn : nilEq v0 u0 with
        | none => simp [hn] at h
        | some b =>
          simp [hn] at h
          subst h
          have r1 := aev_rel hT hx
          have r2 := aev_rel hT hy
          refine ⟨_, .bool b, ?_⟩
          simp only [execOp, Sem.run_bind, eqGuard_nil .eql x y r1 r2 hn, Result.andThen_ok, (binEq_ok (he.ty t i hi).1 r1 r2 hc.1 hc.2 hn w).1, Sem.run_pure]
    · cases h
  · -- neq
    rename_i t x y yt
    unfold pNe at h
    split at h
    · rename_i i v0 u0 hi hx hy
      cases hc : (nilDesc i.desc v0 && nilDesc i.desc u0) with
      | false => simp only [hc, cond_false] at h; cases h
      | true =>
        simp only [hc, cond_true] at h
        simp only [Bool.and_eq_true] at hc
        cases hn : nilEq v0 u0 with
        | none => simp [hn] at h
        | some b =>
          simp [hn] at h
          subst h
          have r1 := aev_rel hT hx
          have r2 := aev_rel hT hy
          refine ⟨_, .bool (!b), ?_⟩
          simp only [execOp, Sem.run_bind, eqGuard_nil .neq x y r1 r2 hn, Result.andThen_ok, (binEq_ok (he.ty t i hi).1 r1 r2 hc.1 hc.2 hn w).2, Sem.run_pure]
    · cases h
  · -- len
    rename_i args tys
    unfold pLen at h
    split at h
    · rename_i x t ts ha ht
      split at h
      · rename_i i p m c hi hx
        split at h
        · rename_i el hd
          injection h with h; subst h
          have hr := aev_rel hT hx
          generalize hx' : a.eval x = x' at hr
          have hu := ok_underlying he hi
          rw [hd] at hu
          have ea : args = #[x] := by apply Array.ext'; simpa using ha
          have et : tys = (t :: ts).toArray := by apply Array.ext'; simpa using ht
          refine ⟨_, .int _ _, ?_⟩
          cases hr <;> simp [execOp, resolve, invoke, builtin, Builtin.len_, ea, et, hx', hu, goInt]
        · cases h
      · cases h
    · cases h
  · -- max
    rename_i args tys
    unfold pMinMax at h
    split at h
    · rename_i x y ha
      split at h
      · rename_i k1 a1 k2 b1 hx hy
        injection h with h; subst h
        have hx' := (aev_rel hT hx).int_inv
        have hy' := (aev_rel hT hy).int_inv
        have ea : args = #[x, y] := by apply Array.ext'; simpa using ha
        refine ⟨_, .int _ _, ?_⟩
        simp only [cond_true, ltI_eq]
        by_cases hlt : a1 < b1 <;> simp [execOp, resolve, invoke, builtin, Builtin.max_, Builtin.max2, ea, hx', hy', hlt]
      · cases h
    · cases h
  · -- min
    rename_i args tys
    unfold pMinMax at h
    split at h
    · rename_i x y ha
      split at h
      · rename_i k1 a1 k2 b1 hx hy
        injection h with h; subst h
        have hx' := (aev_rel hT hx).int_inv
        have hy' := (aev_rel hT hy).int_inv
        have ea : args = #[x, y] := by apply Array.ext'; simpa using ha
        refine ⟨_, .int _ _, ?_⟩
        simp only [cond_false, ltI_eq]
        by_cases hlt : b1 < a1 <;> simp [execOp, resolve, invoke, builtin, Builtin.min_, Builtin.min2, ea, hx', hy', hlt]
      · cases h
    · cases h
  · -- unary
    rename_i op t x
    unfold pUn at h
    split at h
    · rename_i hx
      injection h with h; subst h
      have hx' := (aev_rel hT hx).bool_inv
      exact ⟨_, .bool _, by simp [execOp, hx', Op.unary]⟩
    · rename_i hx
      injection h with h; subst h
      have hx' := (aev_rel hT hx).bool_inv
      exact ⟨_, .bool _, by simp [execOp, hx', Op.unary]⟩
    · rename_i k1 n1 hx
      injection h with h; subst h
      have hx' := (aev_rel hT hx).int_inv
      exact ⟨_, .int _ _, by simp [execOp, hx', Op.unary, Op.intArith, wrapF_eq]⟩
    · cases h
  · -- convert
    rename_i src dst x
    unfold pConv at h
    split at h
    · rename_i i0 i k1 n1 hsrc hi hx
      split at h
      · rename_i k2 hd
        injection h with h; subst h
        have hx' := (aev_rel hT hx).int_inv
        have hu := ok_underlying he hi w
        rw [hd] at hu
        exact ⟨_, .int _ _, by simp [execOp, hx', convert, ok_underlying he hsrc, hu, Conv.intToInt, wrapF_eq]⟩
      · cases h
    · cases h
  · cases h
theorem evalPure_ok {o : Oper} {v : Value} (h : evalPure P e T o = some v) (w : World) : ∃ v', VRel γ v v' ∧ (execOp a.eval o).run P w = .ok (.value v') w := by
  have rest : (match pureOp e T o.op with | some v => some v | none => viaModel P T o) = some v → ∃ v', VRel γ v v' ∧ (execOp a.eval o).run P w = .ok (.value v') w := by
    intro h
    split at h
    · rename_i u hu
      injection h with h; subst h
      exact pureOp_ok he hT hu w
    · exact ⟨v, viaModel_ok hT h w⟩
  unfold evalPure at h
  split at h
  · rename_i op t x y yt hop
    split at h
    · rename_i k a1 k' b1 hx hy
      split at h
      · rename_i u hu
        injection h with h; subst h
        have hx' := (aev_rel hT hx).int_inv
        have hy' := (aev_rel hT hy).int_inv
        obtain ⟨h1, h2⟩ := shI_ok (P := P) (k' := k') hu t x y w
        refine ⟨_, shRefl hu, ?_⟩
        simp only [execOp, hop, hx', hy', Sem.run_bind, h1, h2, Result.andThen_ok, Sem.run_pure]
      cases hk : sameK k k' with
      | false => rw [hk] at h; exact ⟨v, viaModel_ok hT h w⟩
      | true =>
        have hk' := sameK_eq hk
        subst hk'
        rw [hk, cond_true] at h
        split at h
        · rename_i u hu
          injection h with h; subst h
          have hx' := (aev_rel hT hx).int_inv
          have hy' := (aev_rel hT hy).int_inv
          obtain ⟨h1, h2⟩ := binI_ok (P := P) hu t x y w
          refine ⟨_, viaRefl hu, ?_⟩
          simp only [execOp, hop, hx', hy', Sem.run_bind, h1, h2, Result.andThen_ok, Sem.run_pure]
        · exact ⟨v, viaModel_ok hT h w⟩
    · exact rest h
  · exact rest h
end
end Go.Ev
namespace Go.Ev
open Go Go.RowKit
variable [Rho]
structure St where
  heap : PT AB
  next : Nat
  wr : List Nat
  thr : Nat
  allow : List Nat
def memN (x : Nat) : List Nat → Bool
  | [] => false
  | y :: l => cond (Nat.beq x y) true (memN x l)
omit [Rho] in
theorem memN_iff (x : Nat) : ∀ l : List Nat, memN x l = true ↔ x ∈ l
  | [] => by simp [memN]
  | y :: l => by
    simp only [memN, List.mem_cons]
    cases h : Nat.beq x y with
    | true => simp [Nat.eq_of_beq_eq_true h]
    | false => have := Nat.ne_of_beq_eq_false h; simp [this, memN_iff x l]
def hdep : Nat := 14
def hmax : Nat := 16384
def St.sees (s : St) (id : Nat) : Bool := match s with
  | ⟨_, _, _, thr, allow⟩ => cond (Nat.ble thr id) true (memN id allow)
def St.raw (s : St) (id : Nat) : AB := match s with
  | ⟨h, _, _, _, _⟩ => cond (Nat.blt id hmax) ((PT.get hdep h id).getD .dead) .dead
def St.at (s : St) (id : Nat) : AB := cond (s.sees id) (s.raw id) .dead
def forceNat {β : Type} (n : Nat) (k : Nat → β) : β := match n with
  | 0 => k 0
  | m + 1 => k (m + 1)
omit [Rho] in
theorem forceNat_eq {β : Type} (n : Nat) (k : Nat → β) : forceNat n k = k n := by cases n <;> rfl
def St.putK {β : Type} (s : St) (id : Nat) (b : AB) (k : St → Option β) : Option β := match s with
  | ⟨h, n, wr, thr, allow⟩ => cond (Nat.blt id hmax) (PT.setK hdep h id b fun h' =>
      cond (Nat.ble thr id) (k ⟨h', n, wr, thr, allow⟩) (cond (memN id wr) (k ⟨h', n, wr, thr, allow⟩) (k ⟨h', n, id :: wr, thr, allow⟩))) none
def St.newK {β : Type} (s : St) (b : AB) (k : Nat → St → Option β) : Option β := match s with
  | ⟨h, n, wr, thr, allow⟩ => cond (Nat.blt n hmax) (PT.setK hdep h n b fun h' => forceNat (n + 1) fun n' => k n ⟨h', n', wr, thr, allow⟩) none
/-- What holds of every state that the evaluator comes to. -/
structure St.Wf (s : St) : Prop where
  thr : s.thr ≤ s.next
  fresh : ∀ id, s.next ≤ id → s.raw id = .dead
/-- What no part of the evaluator does. -/
structure Raw (s s' : St) : Prop where
  next : s.next ≤ s'.next
  thr : s'.thr = s.thr
  allow : s'.allow = s.allow
  wr : ∀ id, id ∈ s.wr → id ∈ s'.wr
  new : ∀ id, id ∈ s'.wr → id ∈ s.wr ∨ (id < s.thr ∧ id ∈ s.allow)
  same : ∀ id, id < s.thr → id ∉ s'.wr → s'.raw id = s.raw id
  wf : s'.Wf
omit [Rho] in
theorem Raw.refl {s : St} (h : s.Wf) : Raw s s := ⟨Nat.le_refl _, rfl, rfl, fun _ h => h, fun _ h => .inl h, fun _ _ _ => rfl, h⟩
omit [Rho] in
theorem Raw.trans {a b c : St} (h : Raw a b) (k : Raw b c) : Raw a c := by
  refine ⟨Nat.le_trans h.next k.next, k.thr.trans h.thr, k.allow.trans h.allow, fun id m => k.wr id (h.wr id m), fun id m => ?_, fun id hl hn => ?_, k.wf⟩
  · rcases k.new id m with m | ⟨m1, m2⟩
    · exact h.new id m
    · exact .inr ⟨by rw [← h.thr]; exact m1, by rw [← h.allow]; exact m2⟩
  · rw [k.same id (by rw [h.thr]; exact hl) hn, h.same id hl (fun m => hn (k.wr id m))]
omit [Rho] in
theorem St.sees_iff (s : St) (id : Nat) : s.sees id = true ↔ s.thr ≤ id ∨ id ∈ s.allow := by
  obtain ⟨h, n, wr, thr, allow⟩ := s
  simp only [St.sees]
  cases hb : Nat.ble thr id with
  | true => simp [Nat.le_of_ble_eq_true hb]
  | false =>
    have : ¬ thr ≤ id := fun hh => by rw [Nat.ble_eq_true_of_le hh] at hb; cases hb
    simp [this, memN_iff]
omit [Rho] in
theorem raw_set (h : PT AB) (n : Nat) (wr : List Nat) (thr : Nat) (allow : List Nat) (id j : Nat) (b : AB) (hid : id < hmax) (n' : Nat) (wr' : List Nat) :
    St.raw ⟨PT.set hdep h id b, n', wr', thr, allow⟩ j = if j = id then b else St.raw ⟨h, n, wr, thr, allow⟩ j := by
  simp only [St.raw]
  cases hj : Nat.blt j hmax with
  | true =>
    have hj' : j < hmax := Nat.le_of_ble_eq_true hj
    simp only [cond_true]
    rw [PT.get_set hdep h id j b hid hj']
    split <;> rfl
  | false =>
    have hj' : ¬ j < hmax := fun hh => by have := Nat.ble_eq_true_of_le hh; rw [Nat.blt, this] at hj; cases hj
    have hne : j ≠ id := fun hh => hj' (hh ▸ hid)
    simp [hne]
omit [Rho] in
theorem sees_same (h h' : PT AB) (n n' : Nat) (wr wr' : List Nat) (thr : Nat) (allow : List Nat) (j : Nat) : St.sees ⟨h', n', wr', thr, allow⟩ j = St.sees ⟨h, n, wr, thr, allow⟩ j := rfl
omit [Rho] in
theorem St.putK_inv {β : Type} {s : St} {id : Nat} {b : AB} {k : St → Option β} {r : β} (h : s.putK id b k = some r) (hw : s.Wf) (hs : s.sees id = true) (hl : id < s.next) :
    ∃ s', k s' = some r ∧ Raw s s' ∧ s'.next = s.next ∧ s'.at = fun j => if j = id then b else s.at j := by
  obtain ⟨hp, n, wr, thr, allow⟩ := s
  simp only [St.putK] at h
  cases hb : Nat.blt id hmax with
  | false => simp only [hb, cond_false] at h; cases h
  | true =>
    have hid : id < hmax := Nat.le_of_ble_eq_true hb
    simp only [hb, cond_true, PT.setK_eq] at h
    have hat : ∀ wr', St.at ⟨PT.set hdep hp id b, n, wr', thr, allow⟩ = fun j => if j = id then b else St.at ⟨hp, n, wr, thr, allow⟩ j := by
      intro wr'
      funext j
      simp only [St.at]
      rw [raw_set hp n wr thr allow id j b hid n wr', sees_same hp _ n n wr wr' thr allow j]
      by_cases hj : j = id
      · subst hj; simp [hs]
      · simp [hj]
    have hwf : ∀ wr', St.Wf ⟨PT.set hdep hp id b, n, wr', thr, allow⟩ := by
      intro wr'
      refine ⟨hw.thr, fun j hj => ?_⟩
      rw [raw_set hp n wr thr allow id j b hid n wr']
      have hne : j ≠ id := by have : n ≤ j := hj; have : id < n := hl; omega
      rw [if_neg hne]
      exact hw.fresh j hj
    have hsame : ∀ wr' j, j ≠ id → St.raw ⟨PT.set hdep hp id b, n, wr', thr, allow⟩ j = St.raw ⟨hp, n, wr, thr, allow⟩ j := by
      intro wr' j hj
      rw [raw_set hp n wr thr allow id j b hid n wr', if_neg hj]
    have hvis : thr ≤ id ∨ id ∈ allow := (St.sees_iff _ id).1 hs
    cases ht : Nat.ble thr id with
    | true =>
      simp only [ht, cond_true] at h
      have ht' := Nat.le_of_ble_eq_true ht
      exact ⟨_, h, ⟨Nat.le_refl _, rfl, rfl, fun _ m => m, fun _ m => .inl m, fun j hj _ => hsame wr j (by have : j < thr := hj; omega), hwf wr⟩, rfl, hat wr⟩
    | false =>
      have ht' : ¬ thr ≤ id := fun hh => by rw [Nat.ble_eq_true_of_le hh] at ht; cases ht
      simp only [ht, cond_false] at h
      cases hm : memN id wr with
      | true =>
        simp only [hm, cond_true] at h
        have hm' := (memN_iff id wr).1 hm
        exact ⟨_, h, ⟨Nat.le_refl _, rfl, rfl, fun _ m => m, fun _ m => .inl m, fun j hj hn => hsame wr j (fun e => hn (e ▸ hm')), hwf wr⟩, rfl, hat wr⟩
      | false =>
        simp only [hm, cond_false] at h
        refine ⟨_, h, ⟨Nat.le_refl _, rfl, rfl, fun _ m => List.mem_cons_of_mem _ m, fun j m => ?_, fun j hj hn => hsame _ j (fun e => hn (e ▸ List.mem_cons_self)), hwf _⟩, rfl, hat _⟩
        rcases List.mem_cons.1 m with rfl | m
        · exact .inr ⟨Nat.lt_of_not_le ht', hvis.resolve_left ht'⟩
        · exact .inl m
omit [Rho] in
theorem St.newK_inv {β : Type} {s : St} {b : AB} {k : Nat → St → Option β} {r : β} (h : s.newK b k = some r) (hw : s.Wf) :
    ∃ s', k s.next s' = some r ∧ Raw s s' ∧ s'.next = s.next + 1 ∧ s.at s.next = .dead ∧ s'.at = fun j => if j = s.next then b else s.at j := by
  obtain ⟨hp, n, wr, thr, allow⟩ := s
  simp only [St.newK] at h
  cases hb : Nat.blt n hmax with
  | false => simp only [hb, cond_false] at h; cases h
  | true =>
    have hid : n < hmax := Nat.le_of_ble_eq_true hb
    simp only [hb, cond_true, PT.setK_eq, forceNat_eq] at h
    have hthr : thr ≤ n := hw.thr
    refine ⟨_, h, ⟨Nat.le_succ _, rfl, rfl, fun _ m => m, fun _ m => .inl m, fun j hj _ => ?_, ⟨Nat.le_succ_of_le hw.thr, fun j hj => ?_⟩⟩, rfl, ?_, ?_⟩
    · rw [raw_set hp n wr thr allow n j b hid (n + 1) wr, if_neg (by have : j < thr := hj; omega)]
    · have hj' : n + 1 ≤ j := hj
      rw [raw_set hp n wr thr allow n j b hid (n + 1) wr, if_neg (by omega)]
      exact hw.fresh j (show n ≤ j by omega)
    · have := hw.fresh n (Nat.le_refl _)
      simp only [St.at, this]
      cases St.sees ⟨hp, n, wr, thr, allow⟩ n <;> rfl
    · funext j
      simp only [St.at]
      rw [raw_set hp n wr thr allow n j b hid (n + 1) wr, sees_same hp _ n (n + 1) wr wr thr allow j]
      by_cases hj : j = n
      · subst hj
        have : St.sees ⟨hp, j, wr, thr, allow⟩ j = true := (St.sees_iff _ j).2 (.inl hthr)
        simp [this]
      · simp [hj]
def Gam.add (γ : Gam) (id : Nat) (x : Nat × Nat × Nat) : Gam := fun j => if j = id then some x else γ j
omit [Rho] in
theorem Gam.le_add {γ : Gam} {id : Nat} (h : γ id = none) (x : Nat × Nat × Nat) : γ.le (γ.add id x) := fun j y e => by
  unfold Gam.add
  by_cases hj : j = id
  · subst hj; rw [h] at e; cases e
  · rw [if_neg hj]; exact e
omit [Rho] in
theorem Gam.add_same (γ : Gam) (id : Nat) (x : Nat × Nat × Nat) : γ.add id x id = some x := by simp [Gam.add]
omit [Rho] in
theorem Gam.add_other (γ : Gam) {id j : Nat} (h : j ≠ id) (x : Nat × Nat × Nat) : γ.add id x j = γ j := by simp [Gam.add, h]
/-- A new block. -/
theorem Step.ofNew {γ : Gam} {h : Hp} {w w' : World} {id C : Nat} {b : AB} (hs : Sat γ h w) (hg : γ id = none)
    (hsz : w'.heap.size = w.heap.size + 1) (hold : ∀ B, B < w.heap.size → w'.heap[B]? = w.heap[B]?) (hos : w'.os = w.os) (htape : w'.tape = w.tape) (hout : w'.output = w.output)
    (hb : SatB (γ.add id (w.heap.size, 0, C)) w' id b) (hbo : b.alive = true → b.own = true := by first | exact fun _ => rfl | exact fun h => nomatch h) : Step id (id + 1) γ h w (γ.add id (w.heap.size, 0, C)) (fun j => if j = id then b else h j) w' := by
  have hle := Gam.le_add hg (w.heap.size, 0, C)
  have lt : ∀ j B O C', (h j).alive = true → γ j = some (B, O, C') → B < w.heap.size := fun j B O C' ha e => by
    exact (hs.blk j).at ha _ _ _ e
  refine Step0.up hs.frz ⟨hle, fun j e1 e2 => ?_, by omega, fun B hB _ => hold B hB, fun B ho => ?_, ⟨fun j => ?_, fun i j B O C1 O' C1' ai aj ei ej => ?_⟩, hos, htape, hout, fun j a1 a2 => ?_⟩
  · by_cases hj : j = id
    · omega
    · rw [Gam.add_other γ hj] at e2; exact absurd e1 e2
  · obtain ⟨j, O, C1, hown, e1⟩ := ho
    by_cases hj : j = id
    · subst hj; rw [Gam.add_same] at e1; cases e1; exact .inr (Nat.le_refl _)
    · simp only [if_neg hj] at hown; rw [Gam.add_other γ hj] at e1; exact .inl ⟨j, O, C1, hown, e1⟩
  · by_cases hj : j = id
    · subst hj; simp only [if_true]; exact hb
    · simp only [if_neg hj]
      exact (hs.blk j).keep hle (fun q => by rw [Gam.add_other γ hj]; exact q) (fun B O C1 ha e => hold B (lt j B O C1 ha e))
  · by_cases hi : i = id <;> by_cases hj : j = id
    · omega
    · subst hi
      simp only [if_neg hj] at aj
      rw [Gam.add_same] at ei
      rw [Gam.add_other γ hj] at ej
      cases ei
      have := lt j _ _ _ aj ej
      omega
    · subst hj
      simp only [if_neg hi] at ai
      rw [Gam.add_same] at ej
      rw [Gam.add_other γ hi] at ei
      cases ej
      have := lt i _ _ _ ai ei
      omega
    · simp only [if_neg hi] at ai
      simp only [if_neg hj] at aj
      rw [Gam.add_other γ hi] at ei
      rw [Gam.add_other γ hj] at ej
      exact hs.inj i j B O C1 O' C1' ai aj ei ej
  · by_cases hj : j = id
    · subst hj; simp only [if_true] at a1 a2; rw [hbo a1] at a2; cases a2
    · simp only [if_neg hj]
/-- A write into a block. -/
theorem Step.ofPut {lo : Nat} {γ : Gam} {h : Hp} {w w' : World} {id B O C : Nat} {b : AB} (hs : Sat γ h w) (hown : (h id).own = true) (hg : γ id = some (B, O, C))
    (hsz : w'.heap.size = w.heap.size) (hold : ∀ B', B' ≠ B → w'.heap[B']? = w.heap[B']?) (hos : w'.os = w.os) (htape : w'.tape = w.tape) (hout : w'.output = w.output)
    (hb : SatB γ w' id b) (hbo : b.alive = true → b.own = true := by first | exact fun _ => rfl | exact fun h => nomatch h) : Step lo lo γ h w γ (fun j => if j = id then b else h j) w' := by
  refine Step0.up hs.frz ⟨Gam.le_refl _, fun j e1 e2 => absurd e1 e2, by omega, fun B' hB ho => hold B' (fun e => ho ⟨id, O, C, hown, by rw [e]; exact hg⟩), fun B' ho => ?_, ⟨fun j => ?_, fun i j B1 O1 C1 O' C1' ai aj ei ej => ?_⟩, hos, htape, hout, fun j a1 a2 => ?_⟩
  · obtain ⟨j, O1, C1, ho1, e1⟩ := ho
    by_cases hj : j = id
    · subst hj; exact .inl ⟨j, O1, C1, hown, e1⟩
    · simp only [if_neg hj] at ho1; exact .inl ⟨j, O1, C1, ho1, e1⟩
  · by_cases hj : j = id
    · subst hj; simp only [if_true]; exact hb
    · simp only [if_neg hj]
      refine (hs.blk j).keep (Gam.le_refl _) (fun q => q) (fun B1 O1 C1 ha e => hold B1 (fun e2 => hj ?_))
      subst e2
      exact hs.inj j id B1 O1 C1 O C ha (AB.alive_of_own hown) e hg
  · have key : ∀ m, (if m = id then b else h m).alive = true → (h m).alive = true := fun m hm => by
      by_cases hmi : m = id
      · subst hmi; exact AB.alive_of_own hown
      · simpa only [if_neg hmi] using hm
    exact hs.inj i j B1 O1 C1 O' C1' (key i ai) (key j aj) ei ej
  · by_cases hj : j = id
    · subst hj; simp only [if_true] at a1 a2; rw [hbo a1] at a2; cases a2
    · simp only [if_neg hj]
/-- A block goes on under a new name. -/
theorem Step.ofMove {γ : Gam} {h : Hp} {w w' : World} {id0 id B O C O' C' : Nat} {b : AB} (hs : Sat γ h w) (hown : (h id0).own = true) (hg : γ id0 = some (B, O, C)) (hn : γ id = none)
    (hsz : w'.heap.size = w.heap.size) (hold : ∀ B', B' ≠ B → w'.heap[B']? = w.heap[B']?) (hos : w'.os = w.os) (htape : w'.tape = w.tape) (hout : w'.output = w.output)
    (hb : SatB (γ.add id (B, O', C')) w' id b) (hbo : b.alive = true → b.own = true := by first | exact fun _ => rfl | exact fun h => nomatch h) : Step id (id + 1) γ h w (γ.add id (B, O', C')) (fun j => if j = id then b else if j = id0 then .dead else h j) w' := by
  have hle := Gam.le_add hn (B, O', C')
  refine Step0.up hs.frz ⟨hle, fun j e1 e2 => ?_, by omega, fun B' hB ho => hold B' (fun e => ho ⟨id0, O, C, hown, by rw [e]; exact hg⟩), fun B' ho => ?_, ⟨fun j => ?_, fun i j B1 O1 C1 O2 C2 ai aj ei ej => ?_⟩, hos, htape, hout, fun j a1 a2 => ?_⟩
  · by_cases hj : j = id
    · omega
    · rw [Gam.add_other γ hj] at e2; exact absurd e1 e2
  · obtain ⟨j, O1, C1, ho1, e1⟩ := ho
    by_cases hj : j = id
    · subst hj; rw [Gam.add_same] at e1; cases e1; exact .inl ⟨id0, O, C, hown, hg⟩
    · rw [Gam.add_other γ hj] at e1
      simp only [if_neg hj] at ho1
      by_cases hj0 : j = id0
      · simp [hj0, AB.own] at ho1
      · simp only [if_neg hj0] at ho1; exact .inl ⟨j, O1, C1, ho1, e1⟩
  · by_cases hj : j = id
    · subst hj; simp only [if_true]; exact hb
    · simp only [if_neg hj]
      by_cases hj0 : j = id0
      · simp only [if_pos hj0]; trivial
      · simp only [if_neg hj0]
        refine (hs.blk j).keep hle (fun q => by rw [Gam.add_other γ hj]; exact q) (fun B1 O1 C1 ha e => hold B1 (fun e2 => hj0 ?_))
        subst e2
        exact hs.inj j id0 B1 O1 C1 O C ha (AB.alive_of_own hown) e hg
  · have key : ∀ m, m ≠ id → (if m = id then b else if m = id0 then AB.dead else h m).alive = true → m ≠ id0 ∧ (h m).alive = true := fun m hmi hm => by
      simp only [if_neg hmi] at hm
      by_cases hm0 : m = id0
      · simp [hm0, AB.alive] at hm
      · simp only [if_neg hm0] at hm; exact ⟨hm0, hm⟩
    by_cases hi : i = id <;> by_cases hj : j = id
    · omega
    · subst hi
      obtain ⟨n0, al⟩ := key j hj aj
      rw [Gam.add_same] at ei
      rw [Gam.add_other γ hj] at ej
      cases ei
      exact absurd (hs.inj j id0 B O2 C2 O C al (AB.alive_of_own hown) ej hg) n0
    · subst hj
      obtain ⟨n0, al⟩ := key i hi ai
      rw [Gam.add_same] at ej
      rw [Gam.add_other γ hi] at ei
      cases ej
      exact absurd (hs.inj i id0 B O1 C1 O C al (AB.alive_of_own hown) ei hg) n0
    · obtain ⟨_, al1⟩ := key i hi ai
      obtain ⟨_, al2⟩ := key j hj aj
      rw [Gam.add_other γ hi] at ei
      rw [Gam.add_other γ hj] at ej
      exact hs.inj i j B1 O1 C1 O2 C2 al1 al2 ei ej
  · by_cases hj : j = id
    · subst hj; simp only [if_true] at a1 a2; rw [hbo a1] at a2; cases a2
    · by_cases hj0 : j = id0
      · subst hj0; simp [hj, AB.alive] at a1
      · simp only [if_neg hj, if_neg hj0]
end Go.Ev
namespace Go.Ev
open Go Go.RowKit
variable [Rho]
def HOk (P : Program) (o : Oper) (T : Tm) (s s' : St) (v : Value) : Prop :=
  ∀ (γ : Gam) (n : Nat) (a : Act) (w : World), TRel γ T n a.tmps → Sat γ s.at w → (∀ id, s.next ≤ id → id < s'.next → γ id = none) →
    ∃ γ' w' v', Step s.next s'.next γ s.at w γ' s'.at w' ∧ VRel γ' v v' ∧
      ((execOp a.eval o).run P w = .ok (.value v') w' ∨ (v = undef ∧ v' = undef ∧ (execOp a.eval o).run P w = .ok .skip w'))
abbrev K (β : Type) := Value → St → Option β
/-! ### lists, strictly -/
def setSeg : List Value → Nat → List Value → List Value
  | [], _, _ => []
  | _ :: c, 0, v :: vs => v :: setSeg c 0 vs
  | x :: c, 0, [] => x :: c
  | x :: c, o + 1, vs => x :: setSeg c o vs
def setSegK {β : Type} : List Value → Nat → List Value → (List Value → β) → β
  | [], _, _, k => k []
  | _ :: c, 0, v :: vs, k => setSegK c 0 vs fun r => k (v :: r)
  | x :: c, 0, [], k => k (x :: c)
  | x :: c, o + 1, vs, k => setSegK c o vs fun r => k (x :: r)
omit [Rho] in
theorem setSegK_eq {β : Type} : ∀ (c : List Value) (o : Nat) (vs : List Value) (k : List Value → β), setSegK c o vs k = k (setSeg c o vs)
  | [], o, vs, k => by cases o <;> cases vs <;> rfl
  | x :: c, 0, [], k => rfl
  | x :: c, 0, v :: vs, k => by simp only [setSegK, setSeg, setSegK_eq c 0 vs]
  | x :: c, o + 1, vs, k => by cases vs <;> simp only [setSegK, setSeg, setSegK_eq c o]
omit [Rho] in
theorem setSeg_eq : ∀ (c : List Value) (o : Nat) (vs : List Value), o + vs.length ≤ c.length → setSeg c o vs = c.take o ++ vs ++ c.drop (o + vs.length)
  | [], o, vs, h => by
    have : vs = [] := by cases vs with | nil => rfl | cons v vs => simp at h
    subst this; cases o <;> simp [setSeg]
  | x :: c, 0, [], h => by simp [setSeg]
  | x :: c, 0, v :: vs, h => by
    have := setSeg_eq c 0 vs (by simp at h ⊢; omega)
    simp [setSeg, this]
  | x :: c, o + 1, vs, h => by
    have h' : o + vs.length ≤ c.length := by simp at h; omega
    have := setSeg_eq c o vs h'
    have e : o + 1 + vs.length = (o + vs.length) + 1 := by omega
    cases vs with
    | nil => simp [setSeg, this]
    | cons v vs => simp only [setSeg, this, e, List.take_succ_cons, List.drop_succ_cons, List.cons_append]
def appK {β : Type} : List Value → List Value → (List Value → β) → β
  | [], b, k => k b
  | x :: a, b, k => appK a b fun r => k (x :: r)
omit [Rho] in
theorem appK_eq {β : Type} : ∀ (a b : List Value) (k : List Value → β), appK a b k = k (a ++ b)
  | [], b, k => rfl
  | x :: a, b, k => by simp only [appK, appK_eq a b, List.cons_append]
def dropL : Nat → List Value → List Value
  | 0, l => l
  | _ + 1, [] => []
  | n + 1, _ :: l => dropL n l
omit [Rho] in
theorem dropL_eq : ∀ (n : Nat) (l : List Value), dropL n l = l.drop n
  | 0, l => by cases l <;> rfl
  | n + 1, [] => by simp [dropL]
  | n + 1, x :: l => by simp [dropL, dropL_eq n l]
def takeK {β : Type} : Nat → List Value → (List Value → β) → β
  | 0, _, k => k []
  | _ + 1, [], k => k []
  | n + 1, x :: l, k => takeK n l fun r => k (x :: r)
omit [Rho] in
theorem takeK_eq {β : Type} : ∀ (n : Nat) (l : List Value) (k : List Value → β), takeK n l k = k (l.take n)
  | 0, l, k => by cases l <;> rfl
  | n + 1, [], k => by simp [takeK]
  | n + 1, x :: l, k => by simp [takeK, takeK_eq n l]
def one' : List Value → Bool
  | [] => true
  | v :: l => cond v.oneCell' (one' l) false
omit [Rho] in
theorem one'_iff : ∀ l : List Value, one' l = true ↔ ∀ v ∈ l, v.oneCell' = true
  | [] => by simp [one']
  | v :: l => by
    simp only [one', List.mem_cons, forall_eq_or_imp]
    cases h : v.oneCell' with
    | true => simp [one'_iff l]
    | false => simp
def zrep : Nat → List Value → List Value
  | 0, _ => []
  | n + 1, z => z ++ zrep n z
omit [Rho] in
theorem zrep_len : ∀ (n : Nat) (z : List Value), (zrep n z).length = n * z.length
  | 0, z => by simp [zrep]
  | n + 1, z => by simp [zrep, zrep_len n z, Nat.succ_mul]; omega
omit [Rho] in
theorem zrep_get : ∀ (n : Nat) (z : List Value) (i : Nat), i < n * z.length → (zrep n z)[i]? = z[i % z.length]?
  | 0, z, i, h => by simp at h
  | n + 1, z, i, h => by
    simp only [zrep, List.getElem?_append]
    by_cases hi : i < z.length
    · simp [hi, Nat.mod_eq_of_lt hi]
    · simp only [hi, if_false]
      rw [zrep_get n z (i - z.length) (by rw [Nat.succ_mul] at h; omega), ← Nat.mod_eq_sub_mod (by omega)]
omit [Rho] in
theorem zrep_array (n : Nat) (z : Array Value) : ((Array.range (n * z.size)).map (fun i => z[i % z.size]!)).toList = zrep n z.toList := by
  apply List.ext_getElem?
  intro i
  by_cases hi : i < n * z.size
  · rw [zrep_get n z.toList i (by simpa using hi)]
    have hz : 0 < z.size := by rcases Nat.eq_zero_or_pos z.size with h | h; · rw [h] at hi; simp at hi
                               · exact h
    have hm : i % z.size < z.size := Nat.mod_lt _ hz
    simp [hi, hm]
  · have h1 : (zrep n z.toList).length ≤ i := by rw [zrep_len]; simpa using Nat.le_of_not_lt hi
    simp [List.getElem?_eq_none h1, hi]
theorem zrep_rel {γ : Gam} {z z' : List Value} (h : LRel γ z z') : ∀ n, LRel γ (zrep n z) (zrep n z')
  | 0 => .nil γ
  | n + 1 => h.append (zrep_rel h n)
theorem oneCell_rel {γ : Gam} {v v' : Value} (h : VRel γ v v') : v'.oneCell' = v.oneCell' := by cases h <;> first | rfl | exact Rho.one' _
theorem one'_rel {γ : Gam} {l l' : List Value} (h : LRel γ l l') (h1 : one' l = true) : ∀ v ∈ l', v.oneCell' = true := by
  intro v hv
  obtain ⟨i, hi, rfl⟩ := List.getElem_of_mem hv
  rw [oneCell_rel (h.2 i (by rw [h.1]; exact hi) hi)]
  exact (one'_iff l).1 h1 _ (List.getElem_mem _)
/-! ### what a row of cells says -/
theorem SatB.row {γ : Gam} {w : World} {id : Nat} {c : List Value} {t : TypeId} {room : Option Nat} {ro : Bool} {B O C : Nat} (hg : γ id = some (B, O, C)) {arr : Array Value}
    (ha : w.heap[B]? = some (.cells arr t (0, 0))) (hsz : O + c.length ≤ arr.size) (hc : LRel γ c ((arr.toList.drop O).take c.length)) (hr : ∀ sz, room = some sz → O + C * sz ≤ arr.size ∧ c.length ≤ C * sz) :
    SatB γ w id (.cells c t room ro) :=
  ⟨B, O, C, arr, hg, ha, hsz, fun i hi => ⟨arr[O + i], Array.getElem?_eq_getElem _, by
    have := hc.2 i hi (by simp; omega)
    simpa using this⟩, hr⟩
theorem SatB.cells_inv {γ : Gam} {w : World} {id : Nat} {c : List Value} {t : TypeId} {room : Option Nat} {ro : Bool} (h : SatB γ w id (.cells c t room ro)) :
    ∃ B O C arr, γ id = some (B, O, C) ∧ w.heap[B]? = some (.cells arr t (0, 0)) ∧ O + c.length ≤ arr.size ∧ LRel γ c ((arr.toList.drop O).take c.length) ∧ (∀ sz, room = some sz → O + C * sz ≤ arr.size ∧ c.length ≤ C * sz) := by
  obtain ⟨B, O, C, arr, h1, h2, hsz, h3, h4⟩ := h
  refine ⟨B, O, C, arr, h1, h2, hsz, ⟨by simp; omega, fun i i1 i2 => ?_⟩, h4⟩
  obtain ⟨v', e, hv⟩ := h3 i i1
  have e' := (Array.getElem?_eq_some_iff.1 e).2
  simp only [List.getElem_take, List.getElem_drop, Array.getElem_toList]
  rw [e']
  exact hv
/-- A part of a row, as the world has it. -/
theorem row_part {γ : Gam} {w : World} {c : List Value} {t : TypeId} {B O : Nat} {arr : Array Value} (ha : w.heap[B]? = some (.cells arr t (0, 0))) (hsz : O + c.length ≤ arr.size)
    (hc : LRel γ c ((arr.toList.drop O).take c.length)) {o m : Nat} (hm : o + m ≤ c.length) :
    ∃ cs, cs.length = m ∧ LRel γ ((c.drop o).take m) cs ∧ w.rangeAt B (O + o) cs := by
  refine ⟨(((arr.toList.drop O).take c.length).drop o).take m, by simp; omega, (hc.drop o).take m, fun j v hj => ?_⟩
  have hjm : j < m := by
    have := (List.getElem?_eq_some_iff.1 hj).1
    simp at this; omega
  simp only [List.getElem?_take, List.getElem?_drop, hjm, if_true, show o + j < c.length by omega] at hj
  have hj' : arr[O + (o + j)]? = some v := by simpa using hj
  simp only [World.cell?, ha]
  simp [Nat.add_assoc, hj']
end Go.Ev
namespace Go.Ev
open Go Go.RowKit
variable [Rho]
theorem Step.newRow {γ : Gam} {h : Hp} {w : World} {id : Nat} {c : List Value} {t : TypeId} {room : Option Nat} {arr : Array Value} {C : Nat} (hs : Sat γ h w) (hg : γ id = none)
    (hsz : c.length ≤ arr.size) (hc : LRel γ c (arr.toList.take c.length)) (hr : ∀ sz, room = some sz → C * sz ≤ arr.size ∧ c.length ≤ C * sz) (d : Nat) :
    Step id (id + 1) γ h w (γ.add id (w.heap.size, 0, C)) (fun j => if j = id then .cells c t room false else h j) { w with heap := w.heap.push (.cells arr t (0, 0)), drawn := d } := by
  refine Step.ofNew hs hg (by simp) (fun B hB => ?_) rfl rfl rfl ?_
  · simp only [Array.getElem?_push]
    rw [if_neg (by omega)]
  · refine SatB.row (Gam.add_same γ id _) (arr := arr) (by simp) (by omega) ?_ (by simpa using hr)
    simpa using hc.mono (Gam.le_add hg _)
def hAlloc {β : Type} (e : Env) (s : St) (t : TypeId) (k : K β) : Option β :=
  match e.tyOf t with
  | some i => match i.zero with
    | some z => cond (plain 8 z) (s.newK (.cells z.cells.toList t none false) fun id s' => k (.pointer (some ⟨id, 0, none⟩)) s') none
    | none => none
  | none => none
theorem hAlloc_ok {β : Type} {P : Program} {e : Env} (he : Env.Ok P e) {T : Tm} {s : St} {o : Oper} {t : TypeId} {k : K β} {r : β} (ho : o.op = .alloc t) (h : hAlloc e s t k = some r) (hw : s.Wf) :
    ∃ v s', k v s' = some r ∧ Raw s s' ∧ HOk P o T s s' v := by
  unfold hAlloc at h
  split at h
  · rename_i i hi
    split at h
    · rename_i z hz
      cases hp : plain 8 z with
      | false => simp only [hp, cond_false] at h; cases h
      | true =>
        simp only [hp, cond_true] at h
        obtain ⟨s', hk, hraw, hn, hd, hat⟩ := St.newK_inv h hw
        refine ⟨_, s', hk, hraw, fun γ n a w hT hS hf => ?_⟩
        have hg := hf s.next (Nat.le_refl _) (by omega)
        have hz' := ok_zero he hi hz w
        refine ⟨_, { w with heap := w.heap.push (.cells z.cells t (0, 0)), drawn := w.drawn }, _, ?_, .ptr 0 (Gam.add_same γ s.next (w.heap.size, 0, 0)), .inl ?_⟩
        · rw [hn, hat]
          exact Step.newRow hS hg (by simp) (by rw [List.take_of_length_le (Nat.le_refl _)]; exact (plain_rel γ 8 z hp).cells) (by simp) _
        · simp [execOp, ho, Instr.alloc, hz', newVar, newRow]
    · cases h
  · cases h
def hBox {β : Type} (T : Tm) (s : St) (t : TypeId) (x : Operand) (k : K β) : Option β :=
  match aev T x with
  | some v => s.newK (.cells v.cells.toList t none false) fun id s' => k (.pointer (some ⟨id, 0, none⟩)) s'
  | none => none
theorem hBox_ok {β : Type} {P : Program} {T : Tm} {s : St} {o : Oper} {t : TypeId} {x : Operand} {k : K β} {r : β} (ho : o.op = .box t x) (h : hBox T s t x k = some r) (hw : s.Wf) :
    ∃ v s', k v s' = some r ∧ Raw s s' ∧ HOk P o T s s' v := by
  unfold hBox at h
  split at h
  · rename_i v hv
    obtain ⟨s', hk, hraw, hn, hd, hat⟩ := St.newK_inv h hw
    refine ⟨_, s', hk, hraw, fun γ n a w hT hS hf => ?_⟩
    have hg := hf s.next (Nat.le_refl _) (by omega)
    have hr := aev_rel hT hv
    refine ⟨_, { w with heap := w.heap.push (.cells (a.eval x).cells t (0, 0)), drawn := w.drawn }, _, ?_, .ptr 0 (Gam.add_same γ s.next (w.heap.size, 0, 0)), .inl ?_⟩
    · rw [hn, hat]
      have hc := hr.cells
      exact Step.newRow hS hg (by have := hc.1; simp at this ⊢; omega) (by rw [List.take_of_length_le (by rw [hc.1]; exact Nat.le_refl _)]; exact hc) (by simp) _
    · simp [execOp, ho, Instr.box, newVar, newRow]
  · cases h
def hLoad {β : Type} (e : Env) (T : Tm) (s : St) (t : TypeId) (x : Operand) (k : K β) : Option β :=
  match aev T x, e.tyOf t with
  | some (.pointer (some ⟨b, o, none⟩)), some i => match s.at b with
    | .cells c _ _ _ => cond (Nat.ble (o + i.size) c.length) (match partL i c o with
      | some v => k v s
      | none => none) none
    | _ => none
  | _, _ => none
theorem hLoad_ok {β : Type} {P : Program} {e : Env} (he : Env.Ok P e) {T : Tm} {s : St} {o : Oper} {t : TypeId} {x : Operand} {k : K β} {r : β} (ho : o.op = .load t x) (h : hLoad e T s t x k = some r) (hw : s.Wf) :
    ∃ v s', k v s' = some r ∧ Raw s s' ∧ HOk P o T s s' v := by
  unfold hLoad at h
  split at h
  · rename_i b off i hx hi
    split at h
    · rename_i c t' room ro hb
      cases hle : Nat.ble (off + i.size) c.length with
      | false => simp only [hle, cond_false] at h; cases h
      | true =>
        simp only [hle, cond_true] at h
        have hle' := Nat.le_of_ble_eq_true hle
        split at h
        · rename_i v hv
          refine ⟨v, s, h, Raw.refl hw, fun γ n a w hT hS hf => ?_⟩
          obtain ⟨B, O, C, hg, hx'⟩ := (aev_rel hT hx).ptr_inv
          have hsb := hS.blk b
          rw [hb] at hsb
          obtain ⟨B', O', C', arr, hg', ha, hsz, hc, _⟩ := hsb.cells_inv
          rw [hg] at hg'; cases hg'
          obtain ⟨hdesc, j, hj, hjs, _, _⟩ := he.ty t i hi
          unfold partL at hv
          cases hag : isAggD i.desc with
          | true =>
            simp only [hag, cond_true] at hv
            injection hv with hv
            subst hv
            obtain ⟨cs, hl, hrel, hrange⟩ := row_part ha hsz hc hle'
            refine ⟨γ, w, _, Step.refl hS, VRel.aggOf hrel, .inl ?_⟩
            have hrow : i.desc.isRow = true := by cases hd : i.desc <;> simp [hd, isAggD] at hag <;> rfl
            simp [execOp, ho, hx', run_loadAt_mid w B (O + off) t cs i.desc hrange hdesc hrow (by simp [hj, hjs, hl])]
          | false =>
            simp only [hag, cond_false] at hv
            obtain ⟨hlt, rfl⟩ := List.getElem?_eq_some_iff.1 hv
            obtain ⟨cs, hl, hrel, hrange⟩ := row_part ha hsz hc (o := off) (m := 1) (by omega)
            obtain ⟨v', hv', hvr⟩ := hrel.get (i := 0) (v := c[off]) (by simp [List.getElem?_take, hlt])
            refine ⟨γ, w, v', Step.refl hS, hvr, .inl ?_⟩
            have hcell := hrange 0 v' hv'
            simp only [Nat.add_zero] at hcell
            simp [execOp, ho, hx', Instr.loadAt, Instr.sureAddr, loadVar, ok_isAgg he hi, hag, hcell]
        · cases h
    · cases h
  · cases h
/-- Cells of a row are written. -/
theorem SatB.setSeg {γ : Gam} {w : World} {id : Nat} {c : List Value} {t : TypeId} {room : Option Nat} {ro' : Bool} {B O C : Nat} {arr : Array Value} (hg : γ id = some (B, O, C))
    (ha : w.heap[B]? = some (.cells arr t (0, 0))) (hsz : O + c.length ≤ arr.size) (hc : LRel γ c ((arr.toList.drop O).take c.length)) (hr : ∀ sz, room = some sz → O + C * sz ≤ arr.size ∧ c.length ≤ C * sz)
    {o : Nat} {vs vs' : List Value} (hv : LRel γ vs vs') (ho : o + vs.length ≤ c.length) :
    SatB γ (w.setRow B (arr.toList.take (O + o) ++ vs' ++ arr.toList.drop (O + o + vs'.length)).toArray) id (.cells (setSeg c o vs) t room ro') := by
  have hlen : (c.take o ++ vs ++ c.drop (o + vs.length)).length = c.length := by simp; omega
  have hv1 := hv.1
  rw [setSeg_eq c o vs ho]
  refine SatB.row hg (setRow_heap w B arr _ t _ ha) (by rw [hlen]; simp; omega) ?_ (fun sz hs => by rw [hlen]; simp; have := hr sz hs; omega)
  rw [hlen]
  have e : ((arr.toList.take (O + o) ++ vs' ++ arr.toList.drop (O + o + vs'.length)).toArray.toList.drop O).take c.length =
      ((arr.toList.drop O).take c.length).take o ++ vs' ++ ((arr.toList.drop O).take c.length).drop (o + vs.length) := by
    apply List.ext_getElem?
    intro j
    simp only [List.getElem?_take, List.getElem?_drop, List.getElem?_append, List.length_append, List.length_take, List.length_drop, Array.length_toList]
    have e1 : min (O + o) arr.size = O + o := by omega
    have e2 : min c.length (arr.size - O) = c.length := by omega
    have e3 : min o c.length = o := by omega
    simp only [e1, e2, e3]
    by_cases h1 : j < o
    · simp [h1, show O + j < O + o + vs'.length by omega, show O + j < O + o by omega, show j < c.length by omega, show j < o + vs'.length by omega]
    · by_cases h2 : j < o + vs'.length
      · simp [h1, h2, show O + j < O + o + vs'.length by omega, show ¬ O + j < O + o by omega, show j < c.length by omega, show O + j - (O + o) = j - o by omega]
      · simp only [h1, h2, show ¬ O + j < O + o + vs'.length by omega, if_false]
        by_cases h3 : j < c.length
        · have e5 : O + o + vs'.length + (O + j - (O + o + vs'.length)) = O + (o + vs.length + (j - (o + vs'.length))) := by omega
          simp only [h3, if_true, show o + vs.length + (j - (o + vs'.length)) < c.length by omega, e5]
        · simp only [h3, if_false, show ¬ o + vs.length + (j - (o + vs'.length)) < c.length by omega]
  rw [e]
  exact ((hc.take _).append hv).append (hc.drop _)
def hStore {β : Type} (e : Env) (T : Tm) (s : St) (t : TypeId) (x y : Operand) (k : K β) : Option β :=
  match aev T x, aev T y, e.tyOf t with
  | some (.pointer (some ⟨b, o, none⟩)), some v, some i => match s.at b with
    | .cells c t' room ro => cond ro none (cond (Nat.beq v.cells.toList.length i.size) (cond (one' v.cells.toList) (cond (Nat.ble (o + v.cells.toList.length) c.length) (cond (Nat.blt b s.next)
        (setSegK c o v.cells.toList fun c' => s.putK b (.cells c' t' room false) fun s' => k undef s') none) none) none) none)
    | _ => none
  | _, _, _ => none
omit [Rho] in
theorem St.sees_of_at {s : St} {b : Nat} {x : AB} (h : s.at b = x) (hx : x ≠ .dead) : s.sees b = true := by
  unfold St.at at h
  cases hs : s.sees b with
  | true => rfl
  | false => rw [hs] at h; exact absurd h.symm hx
theorem hStore_ok {β : Type} {P : Program} {e : Env} (he : Env.Ok P e) {T : Tm} {s : St} {o : Oper} {t : TypeId} {x y : Operand} {k : K β} {r : β} (ho : o.op = .store t x y) (h : hStore e T s t x y k = some r) (hw : s.Wf) :
    ∃ v s', k v s' = some r ∧ Raw s s' ∧ HOk P o T s s' v := by
  unfold hStore at h
  split at h
  · rename_i b off v i hx hy hi
    split at h
    · rename_i c t' room ro hb
      cases hro : ro with
      | true => simp only [hro, cond_true] at h; cases h
      | false =>
      simp only [hro, cond_false] at h
      cases h1 : Nat.beq v.cells.toList.length i.size with
      | false => simp only [h1, cond_false] at h; cases h
      | true =>
      cases h2 : one' v.cells.toList with
      | false => simp only [h1, h2, cond_true, cond_false] at h; cases h
      | true =>
      cases h3 : Nat.ble (off + v.cells.toList.length) c.length with
      | false => simp only [h1, h2, h3, cond_true, cond_false] at h; cases h
      | true =>
      cases h4 : Nat.blt b s.next with
      | false => simp only [h1, h2, h3, h4, cond_true, cond_false] at h; cases h
      | true =>
        simp only [h1, h2, h3, h4, cond_true, setSegK_eq] at h
        have h1' := Nat.eq_of_beq_eq_true h1
        have h3' := Nat.le_of_ble_eq_true h3
        have h4' : b < s.next := Nat.le_of_ble_eq_true h4
        obtain ⟨s', hk, hraw, hn, hat⟩ := St.putK_inv h hw (St.sees_of_at hb (by simp)) h4'
        refine ⟨_, s', hk, hraw, fun γ n a w hT hS hf => ?_⟩
        obtain ⟨B, O, C, hg, hx'⟩ := (aev_rel hT hx).ptr_inv
        have hsb := hS.blk b
        rw [hb] at hsb
        obtain ⟨B', O', C', arr, hg', ha, hsz, hc, hr⟩ := hsb.cells_inv
        rw [hg] at hg'; cases hg'
        obtain ⟨hdesc, j, hj, hjs, _, _⟩ := he.ty t i hi
        have hv := aev_rel hT hy
        have hvc := hv.cells
        have hst := run_storeCells_at P B (O + off) t' (a.eval y).cells.toList 0 arr w ha (by have := hvc.1; omega) (one'_rel hvc h2)
        refine ⟨γ, w.setRow B (arr.toList.take (O + off) ++ (a.eval y).cells.toList ++ arr.toList.drop (O + off + (a.eval y).cells.toList.length)).toArray, undef, ?_, .tuple _ _ rfl (fun i h1 _ => by simp at h1), .inr ⟨rfl, rfl, ?_⟩⟩
        · rw [hn, hat]
          exact Step.ofPut hS (by rw [hb, hro]; rfl) hg (by simp) (fun B' hB' => setRow_other w B B' _ hB') rfl rfl rfl (SatB.setSeg hg ha hsz hc hr hvc h3')
        · have hsz2 : (a.eval y).cells.size = j.size := by rw [hjs, ← h1', hvc.1]; simp
          simp only [Nat.add_zero] at hst
          simp [execOp, ho, hx', Instr.storeAt, Instr.sureAddr, storeVar, sizeOf, typeInfo, hj, hsz2, hst]
    · cases h
  · cases h
end Go.Ev
