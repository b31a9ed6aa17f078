/- An evaluator of closed Go code, part 3: which operations touch no memory, and what they yield. -/
import Derived.Test.YtbghajfpjjfjcaaEvB
import Derived.IntWalk
set_option linter.unusedSimpArgs false
set_option linter.unusedVariables false
namespace Go.Ev
open Go Go.RowKit
variable [Rho]

/-- The operands that are plain values: the model's own code is run, where it asks nothing of the world. -/
def viaModel (P : Program) (T : Tm) (o : Oper) : Option Value :=
  match o.op with
  | .select _ _ => none
  | _ =>
    cond (o.op.operands.toList.all fun x => match aev T x with | some v => plain 8 v | none => false)
      (match peek P (execOp (fun x => (aev T x).getD undef) o) with
        | some (.value v) => cond (plain 8 v) (some v) none
        | _ => none)
      none

def partL (i : TI) (cs : List Value) (off : Nat) : Option Value :=
  cond (isAggD i.desc) (some (.agg ((cs.drop off).take i.size).toArray)) cs[off]?

def placesL (e : Env) : List Field → Option (List (Nat × Nat))
  | [] => some []
  | f :: fs => match e.tyOf f.type with
    | some i => match placesL e fs with
      | some r => some ((f.offset, i.size) :: r)
      | none => none
    | none => none

def sliceL (o n c size : Nat) (lo hi mx : Option Nat) : Option (Nat × Nat × Nat) :=   -- offset, length, capacity
  let h := hi.getD n
  let l := lo.getD 0
  let opened := Nat.ble openCap c
  match mx with
  | none =>
    cond (Nat.ble h (cond opened n c)) (cond (Nat.ble l h) (cond opened
      (cond (Nat.beq l 0) (some (o, h - l, c)) (cond (Nat.blt l n) (some (o + l * size, h - l, c + l)) none))
      (some (cond (Nat.beq c l) o (o + l * size), h - l, c - l))) none) none
  | some m =>
    cond (Nat.blt m openCap) (cond (Nat.ble m (cond opened n c)) (cond (Nat.ble h m) (cond (Nat.ble l h) (some (cond (Nat.beq m l) o (o + l * size), h - l, m - l)) none) none) none) none

/-- 's[len(s):]', of a slice whose capacity is not known: empty, nobody knows where. -/
def emptyTail (n c : Nat) (lo hi mx : Option Nat) : Bool := match lo, mx with
  | some l, none => cond (Nat.ble openCap c) (cond (Nat.beq l n) (Nat.beq (hi.getD n) n) false) false
  | _, _ => false

def natOf : Option Value → Option (Option Nat)
  | none => some none
  | some (.int _ (.ofNat n)) => some (some n)
  | some _ => none

def optOp (T : Tm) : Option Operand → Option (Option Value)
  | none => some none
  | some x => match aev T x with
    | some v => some (some v)
    | none => none

def nilEq : Value → Value → Option Bool
  | .pointer (some ⟨_, _, none⟩), .pointer none | .pointer none, .pointer (some ⟨_, _, none⟩) => some false
  | .slice (some _) _ _, .slice none _ _ | .slice none _ _, .slice (some _) _ _ => some false
  | .map (some _), .map none | .map none, .map (some _) => some false
  | .func _ _ _, .nilFunc | .nilFunc, .func _ _ _ => some false
  | .iface _ _, .nilIface | .nilIface, .iface _ _ => some false
  | _, _ => none

def nilDesc : TypeDesc → Value → Bool
  | .pointer _, .pointer _ | .slice _, .slice _ _ _ | .map _ _, .map _ | .func _ _ _, .func _ _ _ | .func _ _ _, .nilFunc | .interface _, .iface _ _ | .interface _, .nilIface => true
  | _, _ => false

def pPick (T : Tm) (c a b : Operand) : Option Value :=
  match aev T c with
    | some (.bool t) => cond t (aev T a) (aev T b)
    | _ => none

def pNil (T : Tm) (x : Operand) : Option Value :=
  match aev T x with
    | some (.pointer (some ⟨b, o, none⟩)) => some (.pointer (some ⟨b, o, none⟩))
    | some (.slice a n c) => some (.slice a n c)
    | some (.func (.func f) fi ca) => some (.func (.func f) fi ca)
    | _ => none

def pFieldAddr (e : Env) (T : Tm) (s : TypeId) (x : Operand) (f : Nat) : Option Value :=
  match e.tyOf s, aev T x with
    | some i, some (.pointer (some ⟨b, o, none⟩)) => match i.desc with
      | .struct fields => match fields.toList[f]? with
        | some fl => match e.tyOf fl.type with
          | some j => cond (Nat.beq j.size 0) none (some (.pointer (some ⟨b, o + fl.offset, none⟩)))
          | none => none
        | none => none
      | _ => none
    | _, _ => none

def pIndexAddr (e : Env) (T : Tm) (t : TypeId) (x ix : Operand) : Option Value :=
  match e.tyOf t, aev T x, aev T ix with
    | some i, some (.slice (some ⟨b, o, none⟩) n _), some (.int _ (.ofNat j)) => match i.desc with
      | .slice el => match e.tyOf el with
        | some k => cond (Nat.blt j n) (some (.pointer (some ⟨b, o + j * k.size, none⟩))) none
        | none => none
      | _ => none
    | some i, some (.pointer (some ⟨b, o, none⟩)), some (.int _ (.ofNat j)) => match i.desc with
      | .array n el => match e.tyOf el with
        | some k => cond (Nat.blt j n) (some (.pointer (some ⟨b, o + j * k.size, none⟩))) none
        | none => none
      | _ => none
    | _, _, _ => none

def pSlice (e : Env) (T : Tm) (t : TypeId) (x : Operand) (lo hi mx : Option Operand) : Option Value :=
  match e.tyOf t, aev T x, optOp T lo, optOp T hi, optOp T mx with
    | some i, some (.slice (some ⟨b, o, none⟩) n c), some lo, some hi, some mx => match i.desc with
      | .slice el => match e.tyOf el, natOf lo, natOf hi, natOf mx with
        | some k, some lo, some hi, some mx => cond (mx.isSome && hi.isNone) none (match sliceL o n c k.size lo hi mx with
          | some (o', n', c') => some (.slice (some ⟨b, o', none⟩) n' c')
          | none => cond (emptyTail n c lo hi mx) (some (.slice (some ⟨0, 0, some 1⟩) 0 0)) none)
        | _, _, _, _ => none
      | _ => none
    | _, _, _, _, _ => none

def pField (e : Env) (T : Tm) (t : TypeId) (x : Operand) (f : Nat) : Option Value :=
  match e.tyOf t, aev T x with
    | some i, some (.agg cs) => match i.desc with
      | .struct fields => match fields.toList[f]? with
        | some fl => match e.tyOf fl.type with
          | some j => partL j cs.toList fl.offset
          | none => none
        | none => none
      | _ => none
    | _, _ => none

def pIndex (e : Env) (T : Tm) (t : TypeId) (x ix : Operand) : Option Value :=
  match e.tyOf t, aev T x, aev T ix with
    | some i, some (.agg cs), some (.int _ (.ofNat j)) => match i.desc with
      | .array n el => match e.tyOf el with
        | some k => cond (Nat.blt j n) (partL k cs.toList (j * k.size)) none
        | none => none
      | _ => none
    | _, _, _ => none

def pExtract (T : Tm) (t : Operand) (ix : Nat) : Option Value :=
  match aev T t with
    | some (.tuple vs) => vs.toList[ix]?
    | _ => none

def pMakeFunc (T : Tm) (fn : Fn) (first captured : Array Operand) : Option Value :=
  cond (isYield fn) none (match aevs T first.toList, aevs T captured.toList with
    | some f, some c => some (.func fn f.toArray c.toArray)
    | _, _ => none)

def pMakeIface (e : Env) (T : Tm) (t : TypeId) (x : Operand) : Option Value :=
  match e.tyOf t, aev T x with
    | some i, some v => match i.desc with
      | .interface _ => none
      | _ => some (.iface t v)
    | _, _ => none

def pAssert (e : Env) (T : Tm) (x : Operand) (t : TypeId) (ok : Bool) : Option Value :=
  match e.tyOf t, aev T x with
    | some i, some (.iface u v) => match i.desc with
      | .interface _ => none
      | _ => cond (Nat.beq u t) (some (cond ok (.tuple #[v, .bool true]) v)) none
    | _, _ => none

def pBuild (e : Env) (T : Tm) (t : TypeId) (parts : Array (Nat × Operand)) : Option Value :=
  match e.tyOf t, aevs T (parts.toList.map (·.2)) with
    | some i, some vs => match i.zero with
      | some z => cond (plain 8 z) (match i.desc with
        | .struct fields => match placesL e fields.toList with
          | some pl => match fillL (pl[·]?) z.cells.toList ((parts.toList.map (·.1)).zip vs) with
            | some r => some (.agg r.toArray)
            | none => none
          | none => none
        | .array _ el => match e.tyOf el with
          | some k => match fillL (fun i => some (i * k.size, k.size)) z.cells.toList ((parts.toList.map (·.1)).zip vs) with
            | some r => some (.agg r.toArray)
            | none => none
          | none => none
        | _ => none) none
      | none => none
    | _, _ => none

def pEq (e : Env) (T : Tm) (t : TypeId) (x y : Operand) : Option Value :=
  match e.tyOf t, aev T x, aev T y with
    | some i, some v, some u => cond (nilDesc i.desc v && nilDesc i.desc u) ((nilEq v u).map .bool) none
    | _, _, _ => none

def pNe (e : Env) (T : Tm) (t : TypeId) (x y : Operand) : Option Value :=
  match e.tyOf t, aev T x, aev T y with
    | some i, some v, some u => cond (nilDesc i.desc v && nilDesc i.desc u) ((nilEq v u).map fun b => .bool !b) none
    | _, _, _ => none

def pLen (e : Env) (T : Tm) (args : Array Operand) (tys : Array TypeId) : Option Value :=
  match args.toList, tys.toList with
    | [x], t :: _ => match e.tyOf t, aev T x with
      | some i, some (.slice (some _) n _) => match i.desc with
        | .slice _ => some (.int .i64 n)
        | _ => none
      | _, _ => none
    | _, _ => none

/-! ### integers, fast -/
def inI (h : Nat) : Int → Bool
  | .ofNat m => Nat.blt m h
  | .negSucc m => Nat.blt m h
def inU (h : Nat) : Int → Bool
  | .ofNat m => Nat.blt m h
  | .negSucc _ => false
def wrapF (k : IntKind) (n : Int) : Int := match k with
  | .i64 => cond (inI 9223372036854775808 n) n (IntKind.i64.wrap n)
  | .u64 => cond (inU 18446744073709551616 n) n (IntKind.u64.wrap n)
  | .u8 => cond (inU 256 n) n (IntKind.u8.wrap n)
  | .u16 => cond (inU 65536 n) n (IntKind.u16.wrap n)
  | .u32 => cond (inU 4294967296 n) n (IntKind.u32.wrap n)
  | k => k.wrap n
omit [Rho] in
theorem inI_iff {h : Nat} {n : Int} (e : inI h n = true) : -(h : Int) ≤ n ∧ n < (h : Int) := by
  cases n with
  | ofNat m => have : m < h := Nat.le_of_ble_eq_true e; simp; omega
  | negSucc m => have : m < h := Nat.le_of_ble_eq_true e; omega
omit [Rho] in
theorem inU_iff {h : Nat} {n : Int} (e : inU h n = true) : 0 ≤ n ∧ n < (h : Int) := by
  cases n with
  | ofNat m => have : m < h := Nat.le_of_ble_eq_true e; simp; omega
  | negSucc m => simp [inU] at e
omit [Rho] in
theorem wrapF_eq (k : IntKind) (n : Int) : wrapF k n = k.wrap n := by
  cases k with
  | i64 =>
    simp only [wrapF]
    cases h : inI 9223372036854775808 n with
    | true => have := inI_iff h; rw [cond_true, IntWalk.i64_in n (by omega)]
    | false => rfl
  | u64 =>
    simp only [wrapF]
    cases h : inU 18446744073709551616 n with
    | true => have := inU_iff h; rw [cond_true]; simp [IntKind.wrap, IntKind.bits, IntKind.signed]; omega
    | false => rfl
  | u8 =>
    simp only [wrapF]
    cases h : inU 256 n with
    | true => have := inU_iff h; rw [cond_true, IntWalk.u8_in n (by omega)]
    | false => rfl
  | u16 =>
    simp only [wrapF]
    cases h : inU 65536 n with
    | true => have := inU_iff h; rw [cond_true, IntWalk.u16_in n (by omega)]
    | false => rfl
  | u32 =>
    simp only [wrapF]
    cases h : inU 4294967296 n with
    | true => have := inU_iff h; rw [cond_true]; simp [IntKind.wrap, IntKind.bits, IntKind.signed]; omega
    | false => rfl
  | i8 => rfl
  | i16 => rfl
  | i32 => rfl
def eqI : Int → Int → Bool
  | .ofNat m, .ofNat n => Nat.beq m n
  | .negSucc m, .negSucc n => Nat.beq m n
  | _, _ => false
def ltI : Int → Int → Bool
  | .ofNat m, .ofNat n => Nat.blt m n
  | .negSucc _, .ofNat _ => true
  | .ofNat _, .negSucc _ => false
  | .negSucc m, .negSucc n => Nat.blt n m
omit [Rho] in
theorem eqI_eq (a b : Int) : eqI a b = (a == b) := by
  cases a with
  | ofNat m => cases b with
    | ofNat n =>
      simp only [eqI, beq_decide]
      by_cases h : m = n
      · subst h; simp
      · have : ¬ ((m : Int) = (n : Int)) := by omega
        simp [h, this]
    | negSucc n => simp [eqI]
  | negSucc m => cases b with
    | ofNat n => simp [eqI]
    | negSucc n =>
      simp only [eqI, beq_decide]
      by_cases h : m = n
      · subst h; simp
      · have : ¬ (Int.negSucc m = Int.negSucc n) := by omega
        simp [h]
omit [Rho] in
theorem blt_decide (a b : Nat) : Nat.blt a b = decide (a < b) := by
  cases h : Nat.blt a b with
  | true => have : a < b := Nat.le_of_ble_eq_true h; simp [this]
  | false => have : ¬ a < b := fun hh => by have := Nat.ble_eq_true_of_le hh; rw [Nat.blt, this] at h; cases h
             simp [this]
omit [Rho] in
theorem ltI_eq (a b : Int) : ltI a b = decide (a < b) := by
  cases a with
  | ofNat m => cases b with
    | ofNat n => simp only [ltI, blt_decide]; congr 1; simp
    | negSucc n => simp only [ltI]; symm; simp; omega
  | negSucc m => cases b with
    | ofNat n => simp only [ltI]; symm; simp; omega
    | negSucc n => simp only [ltI, blt_decide]; congr 1; apply propext; omega
def binI (op : BinOp) (k : IntKind) (a b : Int) : Option Value := match op with
  | .add => some (.int k (wrapF k (a + b)))
  | .sub => some (.int k (wrapF k (a - b)))
  | .mul => some (.int k (wrapF k (a * b)))
  | .quo => cond (eqI b 0) none (some (.int k (wrapF k (a.tdiv b))))
  | .rem => cond (eqI b 0) none (some (.int k (a.tmod b)))
  | .eql => some (.bool (eqI a b))
  | .neq => some (.bool (!eqI a b))
  | .lss => some (.bool (ltI a b))
  | .gtr => some (.bool (ltI b a))
  | .leq => some (.bool (!ltI b a))
  | .geq => some (.bool (!ltI a b))
  | _ => none
def bitsN : IntKind → Nat
  | .i8 | .u8 => 8
  | .i16 | .u16 => 16
  | .i32 | .u32 => 32
  | .i64 | .u64 => 64
def minN (a b : Nat) : Nat := cond (Nat.ble a b) a b
def shI (op : BinOp) (k : IntKind) : Int → Int → Option Value
  | .ofNat m, .ofNat n => match op with
    | .shl => some (.int k (wrapF k (.ofNat (m * 2 ^ minN n (bitsN k)))))
    | .shr => some (.int k (.ofNat (m / 2 ^ minN n (bitsN k))))
    | _ => none
  | _, _ => none

omit [Rho] in
theorem minN_eq (a b : Nat) : minN a b = min a b := by
  unfold minN
  cases h : Nat.ble a b with
  | true => have := Nat.le_of_ble_eq_true h; simp; omega
  | false => have : ¬ a ≤ b := fun hh => by rw [Nat.ble_eq_true_of_le hh] at h; cases h
             simp; omega

omit [Rho] in
theorem shI_ok {P : Program} {op : BinOp} {k k' : IntKind} {a b : Int} {v : Value} (h : shI op k a b = some v) (t : TypeId) (x y : Operand) (w : World) :
    (eqGuard op t x y (.int k a) (.int k' b)).run P w = .ok () w ∧ (binOp op t (.int k a) (.int k' b)).run P w = .ok v w := by
  refine ⟨by unfold eqGuard; cases op <;> simp, ?_⟩
  have hbits : bitsN k = k.bits := by cases k <;> rfl
  cases a with
  | negSucc m => cases b <;> simp [shI] at h
  | ofNat m =>
    cases b with
    | negSucc n => simp [shI] at h
    | ofNat n =>
      cases op <;> simp only [shI] at h <;> first
        | (cases h; done)
        | (injection h with h; subst h
           have hn : ¬ ((n : Int) < 0) := by omega
           have hp : (0 : Int) ≤ 2 ^ min n k.bits := Int.le_of_lt (Int.pow_pos (by decide))
           simp [binOp, Op.shift, wrapF_eq, minN_eq, hbits, hn, Int.fdiv_eq_ediv_of_nonneg _ hp])

def sameK : IntKind → IntKind → Bool
  | .i64, .i64 | .u64, .u64 | .u8, .u8 | .u32, .u32 | .i32, .i32 | .u16, .u16 | .i16, .i16 | .i8, .i8 => true
  | _, _ => false
omit [Rho] in
theorem sameK_eq {a b : IntKind} (h : sameK a b = true) : a = b := by cases a <;> cases b <;> first | rfl | (simp [sameK] at h)

omit [Rho] in
theorem binI_ok {P : Program} {op : BinOp} {k : IntKind} {a b : Int} {v : Value} (h : binI op k a b = some v) (t : TypeId) (x y : Operand) (w : World) :
    (eqGuard op t x y (.int k a) (.int k b)).run P w = .ok () w ∧ (binOp op t (.int k a) (.int k b)).run P w = .ok v w := by
  refine ⟨by unfold eqGuard; cases op <;> simp, ?_⟩
  have hb : eqI b 0 = false → ¬ b = 0 := fun h e => by rw [eqI_eq, e] at h; simp at h
  cases op <;> simp only [binI] at h <;> first
    | (cases h; done)
    | (injection h with h; subst h; simp [binOp, Op.intArith, Op.intCmp, wrapF_eq, eqI_eq, ltI_eq, bne]; done)
    | (injection h with h; subst h; simp [binOp, Op.intCmp, ltI_eq]; rw [← decide_not]; congr 1; apply propext; omega)
    | (cases hz : eqI b 0 with
       | true => rw [hz] at h; cases h
       | false => rw [hz] at h; injection h with h; subst h; simp [binOp, Op.intDiv, hb hz, wrapF_eq]; done)

def pUn (T : Tm) (op : UnOp) (x : Operand) : Option Value := match op, aev T x with
  | .not, some (.bool true) => some (.bool false)
  | .not, some (.bool false) => some (.bool true)
  | .neg, some (.int k n) => some (.int k (wrapF k (0 - n)))
  | _, _ => none
def pConv (e : Env) (T : Tm) (src dst : TypeId) (x : Operand) : Option Value := match e.tyOf src, e.tyOf dst, aev T x with
  | some _, some i, some (.int _ n) => match i.desc with
    | .int k => some (.int k (wrapF k n))
    | _ => none
  | _, _, _ => none
def pMinMax (T : Tm) (mx : Bool) (args : List Operand) : Option Value := match args with
  | [x, y] => match aev T x, aev T y with
    | some (.int k a), some (.int _ b) => some (.int k (cond mx (cond (ltI a b) b a) (cond (ltI b a) b a)))
    | _, _ => none
  | _ => none

def pureOp (e : Env) (T : Tm) : Op → Option Value
  | .move x | .assign x => aev T x
  | .pick c a b => pPick T c a b
  | .nilCheck x => pNil T x
  | .fieldAddr s x f => pFieldAddr e T s x f
  | .indexAddr t x ix => pIndexAddr e T t x ix
  | .slice t x lo hi mx => pSlice e T t x lo hi mx
  | .field t x f => pField e T t x f
  | .index t x ix => pIndex e T t x ix
  | .extract t ix => pExtract T t ix
  | .makeFunc fn first captured => pMakeFunc T fn first captured
  | .makeInterface t x => pMakeIface e T t x
  | .typeAssert x _ t ok => pAssert e T x t ok
  | .build t parts => pBuild e T t parts
  | .binOp .eql t x y _ => pEq e T t x y
  | .binOp .neq t x y _ => pNe e T t x y
  | .call ⟨.builtin .len, args, tys⟩ => pLen e T args tys
  | .call ⟨.builtin .max, args, _⟩ => pMinMax T true args.toList
  | .call ⟨.builtin .min, args, _⟩ => pMinMax T false args.toList
  | .unOp op _ x => pUn T op x
  | .convert src dst x => pConv e T src dst x
  | _ => none

theorem viaModel_ok {P : Program} {γ : Gam} {T : Tm} {n : Nat} {a : Act} (hT : TRel γ T n a.tmps) {o : Oper} {v : Value} (h : viaModel P T o = some v) (w : World) :
    VRel γ v v ∧ (execOp a.eval o).run P w = .ok (.value v) w := by
  unfold viaModel at h
  have hsel : ∀ cs b, o.op ≠ .select cs b := by intro cs b e; simp [e] at h
  have h : (cond (o.op.operands.toList.all fun x => match aev T x with | some v => plain 8 v | none => false)
      (match peek P (execOp (fun x => (aev T x).getD undef) o) with
        | some (.value v) => cond (plain 8 v) (some v) none
        | _ => none)
      none) = some v := by
    cases hop : o.op <;> first | (exact absurd hop (hsel _ _)) | (simp only [hop] at h ⊢; exact h)
  cases hall : (o.op.operands.toList.all fun x => match aev T x with | some v => plain 8 v | none => false) with
  | false => simp only [hall, cond] at h; cases h
  | true =>
    simp only [hall, cond] at h
    have hag : ∀ x ∈ o.op.operands, a.eval x = (fun x => (aev T x).getD undef) x := by
      intro x hx
      have hx' := List.all_eq_true.1 hall x (by simpa using hx)
      cases hv : aev T x with
      | none => simp [hv] at hx'
      | some u =>
        simp only [hv] at hx'
        have := plain_eq γ 8 u _ hx' (aev_rel hT hv)
        simp [this, hv]
    rw [execOp_congr o hsel hag]
    cases hp : peek P (execOp (fun x => (aev T x).getD undef) o) with
    | none => simp [hp] at h
    | some nx =>
      cases nx with
      | value u =>
        simp only [hp] at h
        cases hpl : plain 8 u with
        | false => simp only [hpl] at h; cases h
        | true =>
          simp only [hpl] at h
          injection h with h
          subst h
          exact ⟨plain_rel γ 8 _ hpl, peek_run P _ _ hp w⟩
      | _ => simp only [hp] at h; cases h

def evalPure (P : Program) (e : Env) (T : Tm) (o : Oper) : Option Value :=
  match o.op with
  | .binOp op _ x y _ => match aev T x, aev T y with
    | some (.int k a), some (.int k' b) => match shI op k a b with
      | some v => some v
      | none => cond (sameK k k') (match binI op k a b with
        | some v => some v
        | none => viaModel P T o) (viaModel P T o)
    | _, _ => match pureOp e T o.op with
      | some v => some v
      | none => viaModel P T o
  | _ => match pureOp e T o.op with
    | some v => some v
    | none => viaModel P T o
end Go.Ev
