/- An evaluator of closed Go code, part 13: the evaluator. -/
import Derived.Test.YtbghajfpjjfjcaaEvL
set_option linter.unusedSimpArgs false
set_option linter.unusedVariables false
namespace Go.Ev
open Go Go.RowKit

structure Fr where
  T : Tm
  D : List Nat

inductive Ex where
  | normal
  | exit (id : Nat)
  | ret

/-! ### values, strictly -/
def forceInt {β : Type} (n : Int) (k : Int → β) : β := match n with
  | .ofNat m => forceNat m fun m' => k (.ofNat m')
  | .negSucc m => forceNat m fun m' => k (.negSucc m')
theorem forceInt_eq {β : Type} (n : Int) (k : Int → β) : forceInt n k = k n := by cases n <;> simp only [forceInt, forceNat_eq]
def force1 {β : Type} (v : Value) (k : Value → β) : β := match v with
  | .int q n => forceInt n fun n' => k (.int q n')
  | .bool true => k (.bool true)
  | .bool false => k (.bool false)
  | .pointer (some ⟨b, o, s⟩) => forceNat b fun b' => forceNat o fun o' => k (.pointer (some ⟨b', o', s⟩))
  | .slice (some ⟨b, o, s⟩) n c => forceNat b fun b' => forceNat o fun o' => forceNat n fun n' => forceNat c fun c' => k (.slice (some ⟨b', o', s⟩) n' c')
  | v => k v
theorem force1_eq {β : Type} (v : Value) (k : Value → β) : force1 v k = k v := by
  unfold force1
  split <;> simp only [forceInt_eq, forceNat_eq]
def forceL1 {β : Type} : List Value → (List Value → β) → β
  | [], k => k []
  | v :: l, k => force1 v fun v' => forceL1 l fun r => k (v' :: r)
theorem forceL1_eq {β : Type} : ∀ (l : List Value) (k : List Value → β), forceL1 l k = k l
  | [], k => rfl
  | v :: l, k => by simp only [forceL1, force1_eq, forceL1_eq l]
def force2 {β : Type} (v : Value) (k : Value → β) : β := match v with
  | .agg cs => forceL1 cs.toList fun l => k (.agg ⟨l⟩)
  | v => force1 v k
theorem force2_eq {β : Type} (v : Value) (k : Value → β) : force2 v k = k v := by
  unfold force2
  split
  · rw [forceL1_eq]
  · rw [force1_eq]
def forceL2 {β : Type} : List Value → (List Value → β) → β
  | [], k => k []
  | v :: l, k => force2 v fun v' => forceL2 l fun r => k (v' :: r)
theorem forceL2_eq {β : Type} : ∀ (l : List Value) (k : List Value → β), forceL2 l k = k l
  | [], k => rfl
  | v :: l, k => by simp only [forceL2, force2_eq, forceL2_eq l]
def forceV {β : Type} (v : Value) (k : Value → β) : β := match v with
  | .int q n => forceInt n fun n' => k (.int q n')
  | .bool true => k (.bool true)
  | .bool false => k (.bool false)
  | .tuple cs => forceL2 cs.toList fun l => k (.tuple ⟨l⟩)
  | .func fn f c => forceL2 f.toList fun f' => forceL2 c.toList fun c' => k (.func fn ⟨f'⟩ ⟨c'⟩)
  | v => force2 v k
theorem forceV_eq {β : Type} (v : Value) (k : Value → β) : forceV v k = k v := by
  unfold forceV
  split
  · rw [forceInt_eq]
  · rfl
  · rfl
  · rw [forceL2_eq]
  · rw [forceL2_eq, forceL2_eq]
  · rw [force2_eq]

def putT {β : Type} (fr : Fr) (d : Option Tmp) (v : Value) (k : Fr → Option β) : Option β := match d with
  | none => k fr
  | some i => match fr with
    | ⟨⟨t, n, d⟩, D⟩ => cond (Nat.blt i n) (forceV v fun v' => PT.setK d t i v' fun t' => k ⟨⟨t', n, d⟩, D⟩) none

def wantedA (ops : List Oper) (T : Tm) (o : Oper) : Option Bool := match o.guard with
  | none => some true
  | some (j, want) => match ops[j]? with
    | some g => match g.dst with
      | some d => match tget T d with
        | some (.bool b) => some (cond want b (!b))
        | some (.tuple _) => some false
        | _ => none
      | none => none
    | none => none

/-! ### which names an operation may touch (nothing is proved of this) -/
def addN (x : Nat) (l : List Nat) : List Nat := cond (memN x l) l (x :: l)
def namesV : Value → List Nat → List Nat
  | .pointer (some a), l => addN a.block l
  | .slice (some a) _ _, l => addN a.block l
  | .map (some b), l => addN b l
  | .func (.yield b) _ _, l => addN b l
  | .func _ f c, l => names1 c.toList (names1 f.toList l)
  | .iface _ (.pointer (some a)), l => addN a.block l
  | .iface _ (.agg cs), l => names1 cs.toList l
  | .agg cs, l => names1 cs.toList l
  | .tuple cs, l => names1 cs.toList l
  | _, l => l
where
  names1 : List Value → List Nat → List Nat
  | [], l => l
  | .pointer (some a) :: vs, l => names1 vs (addN a.block l)
  | .slice (some a) _ _ :: vs, l => names1 vs (addN a.block l)
  | .map (some b) :: vs, l => names1 vs (addN b l)
  | .func (.yield b) _ _ :: vs, l => names1 vs (addN b l)
  | .func _ f c :: vs, l => names1 vs (names0 c.toList (names0 f.toList l))
  | .iface _ (.pointer (some a)) :: vs, l => names1 vs (addN a.block l)
  | .agg cs :: vs, l => names1 vs (names0 cs.toList l)
  | _ :: vs, l => names1 vs l
  names0 : List Value → List Nat → List Nat
  | [], l => l
  | .pointer (some a) :: vs, l => names0 vs (addN a.block l)
  | .slice (some a) _ _ :: vs, l => names0 vs (addN a.block l)
  | .map (some b) :: vs, l => names0 vs (addN b l)
  | .func (.yield b) _ _ :: vs, l => names0 vs (addN b l)
  | .iface _ (.pointer (some a)) :: vs, l => names0 vs (addN a.block l)
  | _ :: vs, l => names0 vs l

def PT.vals : Nat → PT Value → List Value → List Value
  | 0, .leaf v, l => v :: l
  | d + 1, .node a b, l => PT.vals d a (PT.vals d b l)
  | _, _, l => l
def namesB : AB → List Value
  | .cells c _ _ _ => c
  | .loop _ _ ⟨t, _, d⟩ _ _ _ mk => .map (some mk) :: PT.vals d t []
  | .map es _ => es.map (·.val)
  | _ => []
def namesOps (T : Tm) : List Operand → List Nat → List Nat
  | [], l => l
  | x :: xs, l => match aev T x with
    | some v => namesOps T xs (namesV v l)
    | none => namesOps T xs l
def namesL : List Value → List Nat → List Nat
  | [], l => l
  | v :: vs, l => namesL vs (namesV v l)
/-- the names that can be reached from names -/
def reachN (s : St) : Nat → List Nat → List Nat → List Nat
  | 0, _, done => done
  | _ + 1, [], done => done
  | f + 1, x :: todo, done => cond (memN x done) (reachN s f todo done) (reachN s f (namesL (namesB (s.at x)) todo) (x :: done))
def visL (s : St) (n : Nat) : List Nat → List Nat
  | [] => []
  | x :: l => cond (Nat.blt x n) (cond (s.sees x) (x :: visL s n l) (visL s n l)) (visL s n l)
def forceNL {β : Type} : List Nat → (List Nat → β) → β
  | [], k => k []
  | x :: l, k => forceNat x fun x' => forceNL l fun r => k (x' :: r)
theorem forceNL_eq {β : Type} : ∀ (l : List Nat) (k : List Nat → β), forceNL l k = k l
  | [], k => rfl
  | x :: l, k => by simp only [forceNL, forceNat_eq, forceNL_eq l]

def isCallF : Op → Bool
  | .call ⟨.builtin _, _, _⟩ => false
  | .call _ => true
  | _ => false
def isHeapOp : Op → Bool
  | .alloc _ | .box _ _ | .buildSlice _ _ _ | .load _ _ | .store _ _ _ | .makeSlice _ _ _ | .makeMap _ _ | .lookup _ _ _ _ | .mapUpdate _ _ _ _ | .insert _ _ _ _ => true
  | .call ⟨.builtin .append, _, _⟩ | .call ⟨.builtin .copy, _, _⟩ | .call ⟨.builtin .clear, _, _⟩ | .call ⟨.builtin .delete, _, _⟩ => true
  | _ => false

/-- What an operation may touch: all that can be reached, for a call; else what its operands name. -/
def touches (s : St) (fr : Fr) (o : Oper) : List Nat :=
  cond (isCallF o.op) (reachN s 100000 (namesOps fr.T o.op.operands.toList []) [])
    (cond (isHeapOp o.op) (namesOps fr.T o.op.operands.toList []) (match o.op with
      | .slice _ x _ _ none => namesOps fr.T [x] []
      | _ => []))

structure Rec where
  i : Nat
  l : List Nat
  w : List Nat
  lo : Nat
  hi : Nat

def anyIn : List Nat → List Nat → Bool
  | [], _ => false
  | x :: a, b => cond (memN x b) true (anyIn a b)
def anyBetween (lo hi : Nat) : List Nat → Bool
  | [] => false
  | x :: l => cond (Nat.ble lo x) (cond (Nat.blt x hi) true (anyBetween lo hi l)) (anyBetween lo hi l)

/-- Two operations, the first one earlier in the text, that must keep their order. -/
def clash (x y : Rec) : Bool := cond (anyIn x.w y.l) true (cond (anyBetween x.lo x.hi y.l) true (anyIn y.w x.l))

/-- what each operation waits for, as masks -/
def maskOf (prev : List Nat) (o : Oper) : Nat :=
  o.after.toList.foldl (fun s e => cond (Region.binds .any e) (s ||| 2 ^ e.on ||| prev.getD e.on 0) s) 0
def masksGo : List Oper → List Nat → List Nat
  | [], acc => acc
  | o :: os, acc => masksGo os (acc ++ [maskOf acc o])
def onEarlier : List Oper → Nat → Bool
  | [], _ => true
  | o :: os, i => cond (o.after.toList.all fun e => cond (Region.binds .any e) (Nat.blt e.on i) true) (onEarlier os (i + 1)) false
def pairsT (ops : List Oper) (all : Array Oper) (ms : List Nat) : List Oper → Nat → Bool
  | [], _ => true
  | o :: os, j => cond (pairT ops all (ms.getD j 0) o 0 j) (pairsT ops all ms os (j + 1)) false
where
  pairT : List Oper → Array Oper → Nat → Oper → Nat → Nat → Bool
  | [], _, _, _, _, _ => true
  | x :: xs, all, m, o, i, j => cond (Nat.blt i j) (cond (m.testBit i) (pairT xs all m o (i + 1) j) (cond (x.apart all o) (pairT xs all m o (i + 1) j) false)) true
/-- The region's own text: edges go back, temporaries keep their order. -/
def staticOk (ops : Array Oper) : Bool := cond (onEarlier ops.toList 0) (pairsT ops.toList ops (masksGo ops.toList []) ops.toList 0) false

def clashes (ms : List Nat) (y : Rec) : List Rec → Bool
  | [] => false
  | x :: xs => cond ((ms.getD y.i 0).testBit x.i) (clashes ms y xs) (cond (clash x y) true (clashes ms y xs))

def depthOf (n : Nat) : Nat := cond (Nat.ble n 16) 4 (cond (Nat.ble n 64) 6 (cond (Nat.ble n 256) 8 10))
def setArgs {β : Type} (d : Nat) : PT Value → Nat → List Value → (PT Value → β) → β
  | T, _, [], k => k T
  | T, i, v :: vs, k => forceV v fun v' => PT.setK d T i v' fun T' => forceNat (i + 1) fun i' => setArgs d T' i' vs k
def setParams {β : Type} (d : Nat) : PT Value → List Tmp → List Value → (PT Value → β) → β
  | T, p :: ps, v :: vs, k => forceV v fun v' => PT.setK d T p v' fun T' => setParams d T' ps vs k
  | T, _, _, k => k T
def allLt (n : Nat) : List Tmp → Bool
  | [] => true
  | p :: ps => cond (Nat.blt p n) (allLt n ps) false

def resA (e : Env) (T : Tm) (s : St) : ResultVar → Option Value
  | .tmp t => tget T t
  | .cell a t => match tget T a, e.tyOf t with
    | some (.pointer (some ⟨b, o, none⟩)), some i => match s.at b with
      | .cells c _ _ _ => cond (Nat.ble (o + i.size) c.length) (partL i c o) none
      | _ => none
    | _, _ => none
def resAs (e : Env) (T : Tm) (s : St) : List ResultVar → Option (List Value)
  | [] => some []
  | r :: rs => match resA e T s r with
    | some v => match resAs e T s rs with
      | some vs => some (v :: vs)
      | none => none
    | none => none
def resV (vs : List Value) : Value := match vs with
  | [v] => v
  | _ => .tuple ⟨vs⟩
def dropMarks {β : Type} : List Nat → St → (St → Option β) → Option β
  | [], s, k => k s
  | m :: ms, s, k => match s.at m with
    | .mark => cond (Nat.blt m s.next) (s.putK m .dead fun s' => dropMarks ms s' k) none
    | _ => none

inductive Task (β : Type) where
  | code (c : Code) (ro : Option Nat) (fr : Fr) (s : St) (k : Ex → Fr → St → Option β)
  | ops (all : Array Oper) (rest : List Oper) (ro : Option Nat) (fr : Fr) (s : St) (k : Fr → St → Option β)
  | draw (all : Array Oper) (ms : List Nat) (i : Nat) (rest : List Oper) (ro : Option Nat) (acc : List Rec) (fr : Fr) (s : St) (k : Fr → St → Option β)
  | op (o : Oper) (ro : Option Nat) (fr : Fr) (s : St) (k : Value → St → Option β)
  | call (f : FuncId) (args : List Value) (s : St) (k : Value → St → Option β)
  | yield (l : Nat) (args : List Value) (s : St) (k : Value → St → Option β)

/-- The temporaries that an operation looks at, and no others. -/
def maskK {β : Type} (T : Tm) : List Operand → PT Value → (Tm → β) → β
  | [], acc, k => k ⟨acc, T.n, T.d⟩
  | .tmp t :: xs, acc, k => match tget T t with
    | some v => PT.setK T.d acc t v fun acc' => maskK T xs acc' k
    | none => maskK T xs acc k
  | _ :: xs, acc, k => maskK T xs acc k

def jumpOf : Ex → Option Code
  | .normal => none
  | .exit id => some (.exit id)
  | .ret => some .ret
def exOf : Option Code → Option Ex
  | none => some .normal
  | some (.exit id) => some (.exit id)
  | some .ret => some .ret
  | _ => none

def orWr {β : Type} (thr : Nat) : List Nat → List Nat → (List Nat → β) → β
  | [], l, k => k l
  | x :: xs, l, k => cond (Nat.blt x thr) (cond (memN x l) (orWr thr xs l k) (orWr thr xs (x :: l) k)) (orWr thr xs l k)

section
variable {β : Type} (P : Program) (e : Env) (ih : Task β → Option β)

def seqK (b : Code) (ro : Option Nat) (k : Ex → Fr → St → Option β) : Ex → Fr → St → Option β
  | .normal, fr, s => ih (.code b ro fr s k)
  | ex, fr, s => k ex fr s
def condT (a b : Code) (ro : Option Nat) (fr : Fr) (s : St) (k : Ex → Fr → St → Option β) : Option Value → Option β
  | some (.bool true) => ih (.code a ro fr s k)
  | some (.bool false) => ih (.code b ro fr s k)
  | _ => none
def blockK (id : Nat) (k : Ex → Fr → St → Option β) : Ex → Fr → St → Option β
  | .exit id', fr, s => cond (Nat.beq id' id) (k .normal fr s) (k (.exit id') fr s)
  | ex, fr, s => k ex fr s
def regionT (ops : Array Oper) (draw : Bool) (ro : Option Nat) (fr : Fr) (s : St) (k : Ex → Fr → St → Option β) : Option β :=
  cond draw (cond (staticOk ops) (ih (.draw ops (masksGo ops.toList []) 0 ops.toList ro [] fr s (k .normal))) none)
    (ih (.ops ops ops.toList ro fr s (k .normal)))
/-- behind the call of the function that is ranged over -/
def endLoopK (l : Nat) (fr : Fr) (k : Ex → Fr → St → Option β) (_ : Value) (s : St) : Option β := match s.at l with
  | .loop .busy _ _ _ _ _ _ => none
  | .loop _ pend T ps as bd mk => cond (Nat.blt l s.next) (s.putK l (.loop .exhausted pend T ps as bd mk) fun s' => match exOf pend with
    | some ex => k ex fr s'
    | none => none) none
  | _ => none
def rangeT (ps : Array Tmp) (assign body : Code) (ro : Option Nat) (fr : Fr) (s : St) (k : Ex → Fr → St → Option β) : Option Value → Option β
  | some (.func (.func f) first captured) => match ro with
    | none => s.newK .mark fun mk s1 => s1.newK (.loop .ready none fr.T ps assign body mk) fun l s2 =>
        ih (.call f (first.toList ++ (.func (.yield l) #[] #[] :: captured.toList)) s2 (endLoopK l ⟨fr.T, mk :: fr.D⟩ k))
    | some l0 => match s.at l0 with
      | .loop _ _ _ _ _ _ mk => s.newK (.loop .ready none fr.T ps assign body mk) fun l s2 =>
        ih (.call f (first.toList ++ (.func (.yield l) #[] #[] :: captured.toList)) s2 (endLoopK l fr k))
      | _ => none
  | _ => none
def codeT (ro : Option Nat) (fr : Fr) (s : St) (k : Ex → Fr → St → Option β) : Code → Option β
  | .skip => k .normal fr s
  | .label _ => k .normal fr s
  | .scope c => ih (.code c ro fr s k)
  | .region _ ops draw => regionT ih ops draw ro fr s k
  | .seq a b => ih (.code a ro fr s (seqK ih b ro k))
  | .cond c a b => condT ih a b ro fr s k (aev fr.T c)
  | .block id c => ih (.code c ro fr s (blockK id k))
  | .loop c => ih (.code c ro fr s (seqK ih (.loop c) ro k))
  | .exit id => k (.exit id) fr s
  | .ret => k .ret fr s
  | .rangeFunc g ps assign body => rangeT ih ps assign body ro fr s k (aev fr.T g)
  | _ => none
def opsT (all : Array Oper) (ro : Option Nat) (fr : Fr) (s : St) (k : Fr → St → Option β) : List Oper → Option β
  | [] => k fr s
  | o :: os => match wantedA all.toList fr.T o with
    | some true => ih (.op o ro fr s fun v s' => putT fr o.dst v fun fr' => ih (.ops all os ro fr' s' k))
    | some false => putT fr o.dst undef fun fr' => ih (.ops all os ro fr' s k)
    | none => none
/-- behind an operation of a region that draws its order -/
def drawK (all : Array Oper) (ms : List Nat) (i : Nat) (o : Oper) (os : List Oper) (ro : Option Nat) (acc : List Rec) (fr : Fr) (nx : Nat) (wr : List Nat) (thr : Nat) (allow : List Nat) (l : List Nat)
    (k : Fr → St → Option β) (v : Value) : St → Option β
  | ⟨h', nx', wr', _, _⟩ => cond (clashes ms ⟨i, l, wr', nx, nx'⟩ acc) none
      (orWr thr wr' wr fun wr2 => putT fr o.dst v fun fr' => forceNat (i + 1) fun i' =>
        ih (.draw all ms i' os ro (⟨i, l, wr', nx, nx'⟩ :: acc) fr' ⟨h', nx', wr2, thr, allow⟩ k))
def drawT (all : Array Oper) (ms : List Nat) (i : Nat) (ro : Option Nat) (acc : List Rec) (fr : Fr) (s : St) (k : Fr → St → Option β) : List Oper → Option β
  | [] => k fr s
  | o :: os => match wantedA all.toList fr.T o with
    | some true => match s with
      | ⟨h, nx, wr, thr, allow⟩ => forceNL (visL ⟨h, nx, wr, thr, allow⟩ nx (touches ⟨h, nx, wr, thr, allow⟩ fr o)) fun l => maskK fr.T o.op.operands.toList .nil fun T' => ih (.op o ro ⟨T', fr.D⟩ ⟨h, nx, [], nx, l⟩ (drawK ih all ms i o os ro acc fr nx wr thr allow l k))
    | some false => putT fr o.dst undef fun fr' => forceNat (i + 1) fun i' => ih (.draw all ms i' os ro acc fr' s k)
    | none => none
def callVT (s : St) (k : Value → St → Option β) : Option Value → Option (List Value) → Option β
  | some (.func (.func g) first captured), some vs => ih (.call g (first.toList ++ (vs ++ captured.toList)) s k)
  | some (.func (.yield l) _ _), some vs => ih (.yield l vs s k)
  | _, _ => none
def callIT (name : String) (s : St) (k : Value → St → Option β) : Option Value → Option (List Value) → Option β
  | some (.iface t v), some vs => match e.meth t name with
    | some g => ih (.call g (v :: vs) s k)
    | none => none
  | _, _ => none
def plainOpT (o : Oper) (fr : Fr) (s : St) (k : Value → St → Option β) : Option β :=
  cond (isHeapOp o.op) (heapS e fr.T s o.op k) (match evalPure P e fr.T o with
    | some v => k v s
    | none => heapS e fr.T s o.op k)
def opT (o : Oper) (fr : Fr) (s : St) (k : Value → St → Option β) : Op → Option β
  | .call ⟨.value f, args, _⟩ => callVT ih s k (aev fr.T f) (aevs fr.T args.toList)
  | .call ⟨.invoke r name, args, _⟩ => callIT e ih name s k (aev fr.T r) (aevs fr.T args.toList)
  | .defer _ => none
  | _ => plainOpT P e o fr s k
def retK (fn : Func) (k : Value → St → Option β) (ex : Ex) (fr : Fr) (s : St) : Option β := match ex with
  | .exit _ => none
  | _ => dropMarks fr.D s fun s2 => match resAs e fr.T s2 fn.results.toList with
    | some vs => k (resV vs) s2
    | none => none
def callT (args : List Value) (s : St) (k : Value → St → Option β) : Option Func → Option β
  | some fn => match fn.body with
    | some c => cond (Nat.ble args.length fn.ntmps) (cond (Nat.ble fn.ntmps 1024)
        (forceNat (depthOf fn.ntmps) fun d => forceNat fn.ntmps fun n => setArgs d .nil 0 args fun T => ih (.code c none ⟨⟨T, n, d⟩, []⟩ s (retK e fn k))) none) none
    | none => none
  | none => none
def putsK {β : Type} : List (Nat × AB) → St → (St → Option β) → Option β
  | [], s, k => k s
  | p :: l, s, k => match s.at p.1 with
    | .dead => none
    | _ => cond (Nat.blt p.1 s.next) (s.putK p.1 p.2 fun s' => putsK l s' k) none
def newsK {β : Type} : List AB → St → (St → Option β) → Option β
  | [], s, k => k s
  | b :: l, s, k => s.newK b fun _ s' => newsK l s' k
/-- A call: of a function without arguments whose answer is known; or as it goes. -/
def callK (f : FuncId) (s : St) (k : Value → St → Option β) : List Value → Option β
  | [] => match e.known f with
    | some v => k v s
    | none => callT e ih [] s k (e.fnOf f)
  | v :: vs => match cond e.on (e.calls f (v :: vs) s.at) none with
    | some u => k u s
    | none => match cond e.on (e.callsL f (v :: vs) s.at s.next) none with
      | some (kk, t, sz, _, u) => s.newK (.lst kk t sz) fun _ s' => k u s'
      | none => match cond e.on (e.callsG f (v :: vs) s.at s.next) none with
        | some (upd, new, u) => putsK upd s fun s1 => newsK new s1 fun s2 => k u s2
        | none => callT e ih (v :: vs) s k (e.fnOf f)
def roundK (l : Nat) (k : Value → St → Option β) (ex : Ex) (_ : Fr) (s : St) : Option β := match s.at l with
  | .loop _ _ T ps as bd mk => cond (Nat.blt l s.next) (match ex with
    | .normal => s.putK l (.loop .ready none T ps as bd mk) fun s4 => k (.bool true) s4
    | ex => s.putK l (.loop .done (jumpOf ex) T ps as bd mk) fun s4 => k (.bool false) s4) none
  | _ => none
def beginK (l : Nat) (body : Code) (k : Value → St → Option β) (ex : Ex) (fr : Fr) (s : St) : Option β := match ex with
  | .normal => match s.at l with
    | .loop .ready pend T ps as bd mk => cond (Nat.blt l s.next) (s.putK l (.loop .busy pend T ps as bd mk) fun s2 => ih (.code body (some l) fr s2 (roundK l k))) none
    | _ => none
  | _ => none
def yieldT (l : Nat) (args : List Value) (s : St) (k : Value → St → Option β) : AB → Option β
  | .loop _ _ ⟨t, n, d⟩ ps assign body _ => cond (Nat.beq args.length ps.size) (cond (allLt n ps.toList)
      (setParams d t ps.toList args fun t1 => ih (.code assign (some l) ⟨⟨t1, n, d⟩, []⟩ s (beginK ih l body k))) none) none
  | _ => none

def evT : Task β → Option β
  | .code c ro fr s k => codeT ih ro fr s k c
  | .ops all rest ro fr s k => opsT ih all ro fr s k rest
  | .draw all ms i rest ro acc fr s k => drawT ih all ms i ro acc fr s k rest
  | .op o _ fr s k => opT P e ih o fr s k o.op
  | .call f args s k => callK e ih f s k args
  | .yield l args s k => yieldT ih l args s k (s.at l)
end

def ev {β : Type} (P : Program) (e : Env) (n : Nat) : Task β → Option β :=
  Nat.rec (motive := fun _ => Task β → Option β) (fun _ => none) (fun _ ih t => evT P e ih t) n
end Go.Ev
