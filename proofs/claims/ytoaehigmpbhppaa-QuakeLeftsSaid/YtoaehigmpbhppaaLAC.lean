import Derived.Test.YtoaehigmpbhppaaLAB
/-
  Texts of the bench, merged.
-/
set_option linter.unusedSimpArgs false
set_option linter.unusedVariables false
namespace Go.Ev
open Go Go.RowKit
structure Fr where
  T : Tm
  D : List Nat
inductive Ex where
  | normal
  | exit (id : Nat)
  | ret
/-! ### values, strictly -/
def forceInt {β : Type} (n : Int) (k : Int → β) : β := match n with
  | .ofNat m => forceNat m fun m' => k (.ofNat m')
  | .negSucc m => forceNat m fun m' => k (.negSucc m')
theorem forceInt_eq {β : Type} (n : Int) (k : Int → β) : forceInt n k = k n := by cases n <;> simp only [forceInt, forceNat_eq]
def force1 {β : Type} (v : Value) (k : Value → β) : β := match v with
  | .int q n => forceInt n fun n' => k (.int q n')
  | .bool true => k (.bool true)
  | .bool false => k (.bool false)
  | .pointer (some ⟨b, o, s⟩) => forceNat b fun b' => forceNat o fun o' => k (.pointer (some ⟨b', o', s⟩))
  | .slice (some ⟨b, o, s⟩) n c => forceNat b fun b' => forceNat o fun o' => forceNat n fun n' => forceNat c fun c' => k (.slice (some ⟨b', o', s⟩) n' c')
  | v => k v
theorem force1_eq {β : Type} (v : Value) (k : Value → β) : force1 v k = k v := by
  unfold force1
  split <;> simp only [forceInt_eq, forceNat_eq]
def forceL1 {β : Type} : List Value → (List Value → β) → β
  | [], k => k []
  | v :: l, k => force1 v fun v' => forceL1 l fun r => k (v' :: r)
theorem forceL1_eq {β : Type} : ∀ (l : List Value) (k : List Value → β), forceL1 l k = k l
  | [], k => rfl
  | v :: l, k => by simp only [forceL1, force1_eq, forceL1_eq l]
def force2 {β : Type} (v : Value) (k : Value → β) : β := match v with
  | .agg cs => forceL1 cs.toList fun l => k (.agg ⟨l⟩)
  | v => force1 v k
theorem force2_eq {β : Type} (v : Value) (k : Value → β) : force2 v k = k v := by
  unfold force2
  split
  · rw [forceL1_eq]
  · rw [force1_eq]
def forceL2 {β : Type} : List Value → (List Value → β) → β
  | [], k => k []
  | v :: l, k => force2 v fun v' => forceL2 l fun r => k (v' :: r)
theorem forceL2_eq {β : Type} : ∀ (l : List Value) (k : List Value → β), forceL2 l k = k l
  | [], k => rfl
  | v :: l, k => by simp only [forceL2, force2_eq, forceL2_eq l]
def forceV {β : Type} (v : Value) (k : Value → β) : β := match v with
  | .int q n => forceInt n fun n' => k (.int q n')
  | .bool true => k (.bool true)
  | .bool false => k (.bool false)
  | .tuple cs => forceL2 cs.toList fun l => k (.tuple ⟨l⟩)
  | .func fn f c => forceL2 f.toList fun f' => forceL2 c.toList fun c' => k (.func fn ⟨f'⟩ ⟨c'⟩)
  | v => force2 v k
theorem forceV_eq {β : Type} (v : Value) (k : Value → β) : forceV v k = k v := by
  unfold forceV
  split
  · rw [forceInt_eq]
  · rfl
  · rfl
  · rw [forceL2_eq]
  · rw [forceL2_eq, forceL2_eq]
  · rw [force2_eq]
def putT {β : Type} (fr : Fr) (d : Option Tmp) (v : Value) (k : Fr → Option β) : Option β := match d with
  | none => k fr
  | some i => match fr with
    | ⟨⟨t, n, d⟩, D⟩ => cond (Nat.blt i n) (forceV v fun v' => PT.setK d t i v' fun t' => k ⟨⟨t', n, d⟩, D⟩) none
def wantedA (ops : List Oper) (T : Tm) (o : Oper) : Option Bool := match o.guard with
  | none => some true
  | some (j, want) => match ops[j]? with
    | some g => match g.dst with
      | some d => match tget T d with
        | some (.bool b) => some (cond want b (!b))
        | some (.tuple _) => some false
        | _ => none
      | none => none
    | none => none
/-! ### which names an operation may touch (nothing is proved of this) -/
def addN (x : Nat) (l : List Nat) : List Nat := cond (memN x l) l (x :: l)
def namesV : Value → List Nat → List Nat
  | .pointer (some a), l => addN a.block l
  | .slice (some a) _ _, l => addN a.block l
  | .map (some b), l => addN b l
  | .func (.yield b) _ _, l => addN b l
  | .func _ f c, l => names1 c.toList (names1 f.toList l)
  | .iface _ (.pointer (some a)), l => addN a.block l
  | .iface _ (.agg cs), l => names1 cs.toList l
  | .agg cs, l => names1 cs.toList l
  | .tuple cs, l => names1 cs.toList l
  | _, l => l
where
  names1 : List Value → List Nat → List Nat
  | [], l => l
  | .pointer (some a) :: vs, l => names1 vs (addN a.block l)
  | .slice (some a) _ _ :: vs, l => names1 vs (addN a.block l)
  | .map (some b) :: vs, l => names1 vs (addN b l)
  | .func (.yield b) _ _ :: vs, l => names1 vs (addN b l)
  | .func _ f c :: vs, l => names1 vs (names0 c.toList (names0 f.toList l))
  | .iface _ (.pointer (some a)) :: vs, l => names1 vs (addN a.block l)
  | .agg cs :: vs, l => names1 vs (names0 cs.toList l)
  | _ :: vs, l => names1 vs l
  names0 : List Value → List Nat → List Nat
  | [], l => l
  | .pointer (some a) :: vs, l => names0 vs (addN a.block l)
  | .slice (some a) _ _ :: vs, l => names0 vs (addN a.block l)
  | .map (some b) :: vs, l => names0 vs (addN b l)
  | .func (.yield b) _ _ :: vs, l => names0 vs (addN b l)
  | .iface _ (.pointer (some a)) :: vs, l => names0 vs (addN a.block l)
  | _ :: vs, l => names0 vs l
def PT.vals : Nat → PT Value → List Value → List Value
  | 0, .leaf v, l => v :: l
  | d + 1, .node a b, l => PT.vals d a (PT.vals d b l)
  | _, _, l => l
def namesB : AB → List Value
  | .cells c _ _ _ => c
  | .loop _ _ ⟨t, _, d⟩ _ _ _ mk => .map (some mk) :: PT.vals d t []
  | .map es _ => es.map (·.val)
  | _ => []
def namesOps (T : Tm) : List Operand → List Nat → List Nat
  | [], l => l
  | x :: xs, l => match aev T x with
    | some v => namesOps T xs (namesV v l)
    | none => namesOps T xs l
def namesL : List Value → List Nat → List Nat
  | [], l => l
  | v :: vs, l => namesL vs (namesV v l)
/-- the names that can be reached from names -/
def reachN (s : St) : Nat → List Nat → List Nat → List Nat
  | 0, _, done => done
  | _ + 1, [], done => done
  | f + 1, x :: todo, done => cond (memN x done) (reachN s f todo done) (reachN s f (namesL (namesB (s.at x)) todo) (x :: done))
def visL (s : St) (n : Nat) : List Nat → List Nat
  | [] => []
  | x :: l => cond (Nat.blt x n) (cond (s.sees x) (x :: visL s n l) (visL s n l)) (visL s n l)
def forceNL {β : Type} : List Nat → (List Nat → β) → β
  | [], k => k []
  | x :: l, k => forceNat x fun x' => forceNL l fun r => k (x' :: r)
theorem forceNL_eq {β : Type} : ∀ (l : List Nat) (k : List Nat → β), forceNL l k = k l
  | [], k => rfl
  | x :: l, k => by simp only [forceNL, forceNat_eq, forceNL_eq l]
def isCallF : Op → Bool
  | .call ⟨.builtin _, _, _⟩ => false
  | .call _ => true
  | _ => false
def isHeapOp : Op → Bool
  | .alloc _ | .box _ _ | .buildSlice _ _ _ | .load _ _ | .store _ _ _ | .makeSlice _ _ _ | .makeMap _ _ | .lookup _ _ _ _ | .mapUpdate _ _ _ _ | .insert _ _ _ _ => true
  | .call ⟨.builtin .append, _, _⟩ | .call ⟨.builtin .copy, _, _⟩ | .call ⟨.builtin .clear, _, _⟩ | .call ⟨.builtin .delete, _, _⟩ => true
  | _ => false
/-- What an operation may touch: all that can be reached, for a call; else what its operands name. -/
def touches (s : St) (fr : Fr) (o : Oper) : List Nat :=
  cond (isCallF o.op) (reachN s 100000 (namesOps fr.T o.op.operands.toList []) [])
    (cond (isHeapOp o.op) (namesOps fr.T o.op.operands.toList []) (match o.op with
      | .slice _ x _ _ none => namesOps fr.T [x] []
      | _ => []))
structure Rec where
  i : Nat
  l : List Nat
  w : List Nat
  lo : Nat
  hi : Nat
def anyIn : List Nat → List Nat → Bool
  | [], _ => false
  | x :: a, b => cond (memN x b) true (anyIn a b)
def anyBetween (lo hi : Nat) : List Nat → Bool
  | [] => false
  | x :: l => cond (Nat.ble lo x) (cond (Nat.blt x hi) true (anyBetween lo hi l)) (anyBetween lo hi l)
/-- Two operations, the first one earlier in the text, that must keep their order. -/
def clash (x y : Rec) : Bool := cond (anyIn x.w y.l) true (cond (anyBetween x.lo x.hi y.l) true (anyIn y.w x.l))
/-- what each operation waits for, as masks -/
def maskOf (prev : List Nat) (o : Oper) : Nat :=
  o.after.toList.foldl (fun s e => cond (Region.binds .any e) (s ||| 2 ^ e.on ||| prev.getD e.on 0) s) 0
def masksGo : List Oper → List Nat → List Nat
  | [], acc => acc
  | o :: os, acc => masksGo os (acc ++ [maskOf acc o])
def onEarlier : List Oper → Nat → Bool
  | [], _ => true
  | o :: os, i => cond (o.after.toList.all fun e => cond (Region.binds .any e) (Nat.blt e.on i) true) (onEarlier os (i + 1)) false
def pairsT (ops : List Oper) (all : Array Oper) (ms : List Nat) : List Oper → Nat → Bool
  | [], _ => true
  | o :: os, j => cond (pairT ops all (ms.getD j 0) o 0 j) (pairsT ops all ms os (j + 1)) false
where
  pairT : List Oper → Array Oper → Nat → Oper → Nat → Nat → Bool
  | [], _, _, _, _, _ => true
  | x :: xs, all, m, o, i, j => cond (Nat.blt i j) (cond (m.testBit i) (pairT xs all m o (i + 1) j) (cond (x.apart all o) (pairT xs all m o (i + 1) j) false)) true
/-- The region's own text: edges go back, temporaries keep their order. -/
def staticOk (ops : Array Oper) : Bool := cond (onEarlier ops.toList 0) (pairsT ops.toList ops (masksGo ops.toList []) ops.toList 0) false
def clashes (ms : List Nat) (y : Rec) : List Rec → Bool
  | [] => false
  | x :: xs => cond ((ms.getD y.i 0).testBit x.i) (clashes ms y xs) (cond (clash x y) true (clashes ms y xs))
def depthOf (n : Nat) : Nat := cond (Nat.ble n 16) 4 (cond (Nat.ble n 64) 6 (cond (Nat.ble n 256) 8 10))
def setArgs {β : Type} (d : Nat) : PT Value → Nat → List Value → (PT Value → β) → β
  | T, _, [], k => k T
  | T, i, v :: vs, k => forceV v fun v' => PT.setK d T i v' fun T' => forceNat (i + 1) fun i' => setArgs d T' i' vs k
def setParams {β : Type} (d : Nat) : PT Value → List Tmp → List Value → (PT Value → β) → β
  | T, p :: ps, v :: vs, k => forceV v fun v' => PT.setK d T p v' fun T' => setParams d T' ps vs k
  | T, _, _, k => k T
def allLt (n : Nat) : List Tmp → Bool
  | [] => true
  | p :: ps => cond (Nat.blt p n) (allLt n ps) false
def resA (e : Env) (T : Tm) (s : St) : ResultVar → Option Value
  | .tmp t => tget T t
  | .cell a t => match tget T a, e.tyOf t with
    | some (.pointer (some ⟨b, o, none⟩)), some i => match s.at b with
      | .cells c _ _ _ => cond (Nat.ble (o + i.size) c.length) (partL i c o) none
      | _ => none
    | _, _ => none
def resAs (e : Env) (T : Tm) (s : St) : List ResultVar → Option (List Value)
  | [] => some []
  | r :: rs => match resA e T s r with
    | some v => match resAs e T s rs with
      | some vs => some (v :: vs)
      | none => none
    | none => none
def resV (vs : List Value) : Value := match vs with
  | [v] => v
  | _ => .tuple ⟨vs⟩
def dropMarks {β : Type} : List Nat → St → (St → Option β) → Option β
  | [], s, k => k s
  | m :: ms, s, k => match s.at m with
    | .mark => cond (Nat.blt m s.next) (s.putK m .dead fun s' => dropMarks ms s' k) none
    | _ => none
inductive Task (β : Type) where
  | code (c : Code) (ro : Option Nat) (fr : Fr) (s : St) (k : Ex → Fr → St → Option β)
  | ops (all : Array Oper) (rest : List Oper) (ro : Option Nat) (fr : Fr) (s : St) (k : Fr → St → Option β)
  | draw (all : Array Oper) (ms : List Nat) (i : Nat) (rest : List Oper) (ro : Option Nat) (acc : List Rec) (fr : Fr) (s : St) (k : Fr → St → Option β)
  | op (o : Oper) (ro : Option Nat) (fr : Fr) (s : St) (k : Value → St → Option β)
  | call (f : FuncId) (args : List Value) (s : St) (k : Value → St → Option β)
  | yield (l : Nat) (args : List Value) (s : St) (k : Value → St → Option β)
/-- The temporaries that an operation looks at, and no others. -/
def maskK {β : Type} (T : Tm) : List Operand → PT Value → (Tm → β) → β
  | [], acc, k => k ⟨acc, T.n, T.d⟩
  | .tmp t :: xs, acc, k => match tget T t with
    | some v => PT.setK T.d acc t v fun acc' => maskK T xs acc' k
    | none => maskK T xs acc k
  | _ :: xs, acc, k => maskK T xs acc k
def jumpOf : Ex → Option Code
  | .normal => none
  | .exit id => some (.exit id)
  | .ret => some .ret
def exOf : Option Code → Option Ex
  | none => some .normal
  | some (.exit id) => some (.exit id)
  | some .ret => some .ret
  | _ => none
def orWr {β : Type} (thr : Nat) : List Nat → List Nat → (List Nat → β) → β
  | [], l, k => k l
  | x :: xs, l, k => cond (Nat.blt x thr) (cond (memN x l) (orWr thr xs l k) (orWr thr xs (x :: l) k)) (orWr thr xs l k)
section
variable {β : Type} (P : Program) (e : Env) (ih : Task β → Option β)
def seqK (b : Code) (ro : Option Nat) (k : Ex → Fr → St → Option β) : Ex → Fr → St → Option β
  | .normal, fr, s => ih (.code b ro fr s k)
  | ex, fr, s => k ex fr s
def condT (a b : Code) (ro : Option Nat) (fr : Fr) (s : St) (k : Ex → Fr → St → Option β) : Option Value → Option β
  | some (.bool true) => ih (.code a ro fr s k)
  | some (.bool false) => ih (.code b ro fr s k)
  | _ => none
def blockK (id : Nat) (k : Ex → Fr → St → Option β) : Ex → Fr → St → Option β
  | .exit id', fr, s => cond (Nat.beq id' id) (k .normal fr s) (k (.exit id') fr s)
  | ex, fr, s => k ex fr s
def regionT (ops : Array Oper) (draw : Bool) (ro : Option Nat) (fr : Fr) (s : St) (k : Ex → Fr → St → Option β) : Option β :=
  cond draw (cond (staticOk ops) (ih (.draw ops (masksGo ops.toList []) 0 ops.toList ro [] fr s (k .normal))) none)
    (ih (.ops ops ops.toList ro fr s (k .normal)))
/-- behind the call of the function that is ranged over -/
def endLoopK (l : Nat) (fr : Fr) (k : Ex → Fr → St → Option β) (_ : Value) (s : St) : Option β := match s.at l with
  | .loop .busy _ _ _ _ _ _ => none
  | .loop _ pend T ps as bd mk => cond (Nat.blt l s.next) (s.putK l (.loop .exhausted pend T ps as bd mk) fun s' => match exOf pend with
    | some ex => k ex fr s'
    | none => none) none
  | _ => none
def rangeT (ps : Array Tmp) (assign body : Code) (ro : Option Nat) (fr : Fr) (s : St) (k : Ex → Fr → St → Option β) : Option Value → Option β
  | some (.func (.func f) first captured) => match ro with
    | none => s.newK .mark fun mk s1 => s1.newK (.loop .ready none fr.T ps assign body mk) fun l s2 =>
        ih (.call f (first.toList ++ (.func (.yield l) #[] #[] :: captured.toList)) s2 (endLoopK l ⟨fr.T, mk :: fr.D⟩ k))
    | some l0 => match s.at l0 with
      | .loop _ _ _ _ _ _ mk => s.newK (.loop .ready none fr.T ps assign body mk) fun l s2 =>
        ih (.call f (first.toList ++ (.func (.yield l) #[] #[] :: captured.toList)) s2 (endLoopK l fr k))
      | _ => none
  | _ => none
def codeT (ro : Option Nat) (fr : Fr) (s : St) (k : Ex → Fr → St → Option β) : Code → Option β
  | .skip => k .normal fr s
  | .label _ => k .normal fr s
  | .scope c => ih (.code c ro fr s k)
  | .region _ ops draw => regionT ih ops draw ro fr s k
  | .seq a b => ih (.code a ro fr s (seqK ih b ro k))
  | .cond c a b => condT ih a b ro fr s k (aev fr.T c)
  | .block id c => ih (.code c ro fr s (blockK id k))
  | .loop c => ih (.code c ro fr s (seqK ih (.loop c) ro k))
  | .exit id => k (.exit id) fr s
  | .ret => k .ret fr s
  | .rangeFunc g ps assign body => rangeT ih ps assign body ro fr s k (aev fr.T g)
  | _ => none
def opsT (all : Array Oper) (ro : Option Nat) (fr : Fr) (s : St) (k : Fr → St → Option β) : List Oper → Option β
  | [] => k fr s
  | o :: os => match wantedA all.toList fr.T o with
    | some true => ih (.op o ro fr s fun v s' => putT fr o.dst v fun fr' => ih (.ops all os ro fr' s' k))
    | some false => putT fr o.dst undef fun fr' => ih (.ops all os ro fr' s k)
    | none => none
/-- behind an operation of a region that draws its order -/
def drawK (all : Array Oper) (ms : List Nat) (i : Nat) (o : Oper) (os : List Oper) (ro : Option Nat) (acc : List Rec) (fr : Fr) (nx : Nat) (wr : List Nat) (thr : Nat) (allow : List Nat) (l : List Nat)
    (k : Fr → St → Option β) (v : Value) : St → Option β
  | ⟨h', nx', wr', _, _⟩ => cond (clashes ms ⟨i, l, wr', nx, nx'⟩ acc) none
      (orWr thr wr' wr fun wr2 => putT fr o.dst v fun fr' => forceNat (i + 1) fun i' =>
        ih (.draw all ms i' os ro (⟨i, l, wr', nx, nx'⟩ :: acc) fr' ⟨h', nx', wr2, thr, allow⟩ k))
def drawT (all : Array Oper) (ms : List Nat) (i : Nat) (ro : Option Nat) (acc : List Rec) (fr : Fr) (s : St) (k : Fr → St → Option β) : List Oper → Option β
  | [] => k fr s
  | o :: os => match wantedA all.toList fr.T o with
    | some true => match s with
      | ⟨h, nx, wr, thr, allow⟩ => forceNL (visL ⟨h, nx, wr, thr, allow⟩ nx (touches ⟨h, nx, wr, thr, allow⟩ fr o)) fun l => maskK fr.T o.op.operands.toList .nil fun T' => ih (.op o ro ⟨T', fr.D⟩ ⟨h, nx, [], nx, l⟩ (drawK ih all ms i o os ro acc fr nx wr thr allow l k))
    | some false => putT fr o.dst undef fun fr' => forceNat (i + 1) fun i' => ih (.draw all ms i' os ro acc fr' s k)
    | none => none
def callVT (s : St) (k : Value → St → Option β) : Option Value → Option (List Value) → Option β
  | some (.func (.func g) first captured), some vs => ih (.call g (first.toList ++ (vs ++ captured.toList)) s k)
  | some (.func (.yield l) _ _), some vs => ih (.yield l vs s k)
  | _, _ => none
def callIT (name : String) (s : St) (k : Value → St → Option β) : Option Value → Option (List Value) → Option β
  | some (.iface t v), some vs => match e.meth t name with
    | some g => ih (.call g (v :: vs) s k)
    | none => none
  | _, _ => none
def plainOpT (o : Oper) (fr : Fr) (s : St) (k : Value → St → Option β) : Option β :=
  cond (isHeapOp o.op) (heapS e fr.T s o.op k) (match evalPure P e fr.T o with
    | some v => k v s
    | none => heapS e fr.T s o.op k)
def opT (o : Oper) (fr : Fr) (s : St) (k : Value → St → Option β) : Op → Option β
  | .call ⟨.value f, args, _⟩ => callVT ih s k (aev fr.T f) (aevs fr.T args.toList)
  | .call ⟨.invoke r name, args, _⟩ => callIT e ih name s k (aev fr.T r) (aevs fr.T args.toList)
  | .defer _ => none
  | _ => plainOpT P e o fr s k
def retK (fn : Func) (k : Value → St → Option β) (ex : Ex) (fr : Fr) (s : St) : Option β := match ex with
  | .exit _ => none
  | _ => dropMarks fr.D s fun s2 => match resAs e fr.T s2 fn.results.toList with
    | some vs => k (resV vs) s2
    | none => none
def callT (args : List Value) (s : St) (k : Value → St → Option β) : Option Func → Option β
  | some fn => match fn.body with
    | some c => cond (Nat.ble args.length fn.ntmps) (cond (Nat.ble fn.ntmps 1024)
        (forceNat (depthOf fn.ntmps) fun d => forceNat fn.ntmps fun n => setArgs d .nil 0 args fun T => ih (.code c none ⟨⟨T, n, d⟩, []⟩ s (retK e fn k))) none) none
    | none => none
  | none => none
def putsK {β : Type} : List (Nat × AB) → St → (St → Option β) → Option β
  | [], s, k => k s
  | p :: l, s, k => match s.at p.1 with
    | .dead => none
    | _ => cond (Nat.blt p.1 s.next) (s.putK p.1 p.2 fun s' => putsK l s' k) none
def newsK {β : Type} : List AB → St → (St → Option β) → Option β
  | [], s, k => k s
  | b :: l, s, k => s.newK b fun _ s' => newsK l s' k
/-- A call: of a function without arguments whose answer is known; or as it goes. -/
def callK (f : FuncId) (s : St) (k : Value → St → Option β) : List Value → Option β
  | [] => match e.known f with
    | some v => k v s
    | none => callT e ih [] s k (e.fnOf f)
  | v :: vs => match cond e.on (e.calls f (v :: vs) s.at) none with
    | some u => k u s
    | none => match cond e.on (e.callsL f (v :: vs) s.at s.next) none with
      | some (kk, t, sz, _, u) => s.newK (.lst kk t sz) fun _ s' => k u s'
      | none => match cond e.on (e.callsG f (v :: vs) s.at s.next) none with
        | some (upd, new, u) => putsK upd s fun s1 => newsK new s1 fun s2 => k u s2
        | none => callT e ih (v :: vs) s k (e.fnOf f)
def roundK (l : Nat) (k : Value → St → Option β) (ex : Ex) (_ : Fr) (s : St) : Option β := match s.at l with
  | .loop _ _ T ps as bd mk => cond (Nat.blt l s.next) (match ex with
    | .normal => s.putK l (.loop .ready none T ps as bd mk) fun s4 => k (.bool true) s4
    | ex => s.putK l (.loop .done (jumpOf ex) T ps as bd mk) fun s4 => k (.bool false) s4) none
  | _ => none
def beginK (l : Nat) (body : Code) (k : Value → St → Option β) (ex : Ex) (fr : Fr) (s : St) : Option β := match ex with
  | .normal => match s.at l with
    | .loop .ready pend T ps as bd mk => cond (Nat.blt l s.next) (s.putK l (.loop .busy pend T ps as bd mk) fun s2 => ih (.code body (some l) fr s2 (roundK l k))) none
    | _ => none
  | _ => none
def yieldT (l : Nat) (args : List Value) (s : St) (k : Value → St → Option β) : AB → Option β
  | .loop _ _ ⟨t, n, d⟩ ps assign body _ => cond (Nat.beq args.length ps.size) (cond (allLt n ps.toList)
      (setParams d t ps.toList args fun t1 => ih (.code assign (some l) ⟨⟨t1, n, d⟩, []⟩ s (beginK ih l body k))) none) none
  | _ => none
def evT : Task β → Option β
  | .code c ro fr s k => codeT ih ro fr s k c
  | .ops all rest ro fr s k => opsT ih all ro fr s k rest
  | .draw all ms i rest ro acc fr s k => drawT ih all ms i ro acc fr s k rest
  | .op o _ fr s k => opT P e ih o fr s k o.op
  | .call f args s k => callK e ih f s k args
  | .yield l args s k => yieldT ih l args s k (s.at l)
end
def ev {β : Type} (P : Program) (e : Env) (n : Nat) : Task β → Option β :=
  Nat.rec (motive := fun _ => Task β → Option β) (fun _ => none) (fun _ ih t => evT P e ih t) n
end Go.Ev
namespace Go.Ev
open Go Go.RowKit
variable [Rho]
def FF (roC : Option Nat) : Fence := { Fence.wide with round := roC }
def RoRel (γ : Gam) : Option Nat → Option Nat → Prop
  | none, none => True
  | some l, some L => ∃ O C, γ l = some (L, O, C)
  | _, _ => False
def DRel (γ : Gam) : List Nat → List Deferred → Prop
  | [], [] => True
  | m :: D, d :: ds => (∃ B O C, γ m = some (B, O, C) ∧ d = { target := .collected B, args := #[] }) ∧ DRel γ D ds
  | _, _ => False
def FrRel (γ : Gam) (fr : Fr) (a : Act) : Prop := TRel γ fr.T fr.T.n a.tmps ∧ DRel γ fr.D a.defers
def Fresh (γ : Gam) (s s' : St) : Prop := ∀ id, s.next ≤ id → id < s'.next → γ id = none
omit [Rho] in
theorem RoRel.mono {γ γ' : Gam} (hg : γ.le γ') {ro roC : Option Nat} (h : RoRel γ ro roC) : RoRel γ' ro roC := by
  cases ro <;> cases roC <;> first | exact h | (obtain ⟨O, C, h⟩ := h; exact ⟨O, C, hg _ _ h⟩)
omit [Rho] in
theorem DRel.mono {γ γ' : Gam} (hg : γ.le γ') : ∀ {D : List Nat} {ds : List Deferred}, DRel γ D ds → DRel γ' D ds
  | [], [], _ => trivial
  | _ :: _, _ :: _, ⟨⟨B, O, C, h1, h2⟩, h⟩ => ⟨⟨B, O, C, hg _ _ h1, h2⟩, DRel.mono hg h⟩
  | [], _ :: _, h => h.elim
  | _ :: _, [], h => h.elim
theorem FrRel.mono {γ γ' : Gam} (hg : γ.le γ') {fr : Fr} {a : Act} (h : FrRel γ fr a) : FrRel γ' fr a := ⟨h.1.mono hg, h.2.mono hg⟩
omit [Rho] in
theorem Fresh.left {γ : Gam} {s s1 s' : St} (h : Fresh γ s s') (h1 : s1.next ≤ s'.next) : Fresh γ s s1 := fun id a b => h id a (by omega)
theorem Fresh.right {γ γ' : Gam} {s s1 s' : St} {hh hh' : Hp} {w w' : World} (h : Fresh γ s s') (h0 : s.next ≤ s1.next) (st : Step s.next s1.next γ hh w γ' hh' w') : Fresh γ' s1 s' := fun id a b => by
  by_cases e : γ' id = none
  · exact e
  · have := st.dom id (h id (by omega) b) e
    omega
omit [Rho] in
theorem tget_lt {T : Tm} {i : Nat} {v : Value} (h : tget T i = some v) : i < T.n := by
  obtain ⟨t, n, d⟩ := T
  simp only [tget] at h
  cases hb : Nat.blt i n with
  | true => exact Nat.le_of_ble_eq_true hb
  | false => rw [hb] at h; cases h
omit [Rho] in
/-- A value is put into a slot. -/
theorem putT_ok {β : Type} {fr : Fr} {d : Option Tmp} {v : Value} {k : Fr → Option β} {r : β} (h : putT fr d v k = some r) :
    ∃ fr', k fr' = some r ∧ fr'.D = fr.D ∧ fr'.T.n = fr.T.n ∧
      (∀ t, (∀ i, d = some i → t ≠ i) → t < 2 ^ fr.T.d → (∀ i, d = some i → i < 2 ^ fr.T.d) → tget fr'.T t = tget fr.T t) ∧
      (∀ i, d = some i → i < 2 ^ fr.T.d → tget fr'.T i = some v) ∧ fr'.T.d = fr.T.d ∧ (∀ i, d = some i → i < fr.T.n) := by
  obtain ⟨⟨t, n, dd⟩, D⟩ := fr
  unfold putT at h
  split at h
  · exact ⟨_, h, rfl, rfl, fun _ _ _ _ => rfl, (fun i e => (nomatch e)), rfl, (fun i e => (nomatch e))⟩
  · rename_i i
    simp only at h
    cases hb : Nat.blt i n with
    | false => rw [hb] at h; cases h
    | true =>
      rw [hb, cond_true, forceV_eq, PT.setK_eq] at h
      have hi : i < n := Nat.le_of_ble_eq_true hb
      refine ⟨_, h, rfl, rfl, fun j hj hlt hil => ?_, fun j e hlt => ?_, rfl, fun j e => by cases e; exact hi⟩
      · simp only [tget]
        cases hc : Nat.blt j n with
        | false => rfl
        | true =>
          simp only [cond_true]
          rw [PT.get_set dd t i j v (hil i rfl) hlt, if_neg (hj i rfl)]
      · cases e
        simp only [tget, hb, cond_true]
        rw [PT.get_set dd t i i v hlt hlt, if_pos rfl]
theorem put_rel {γ : Gam} {fr fr' : Fr} {d : Option Tmp} {v v' : Value} {a : Act} (hf : FrRel γ fr a) (hv : VRel γ v v') (hD : fr'.D = fr.D) (hn : fr'.T.n = fr.T.n)
    (ho : ∀ t, (∀ i, d = some i → t ≠ i) → t < 2 ^ fr.T.d → (∀ i, d = some i → i < 2 ^ fr.T.d) → tget fr'.T t = tget fr.T t)
    (hs : ∀ i, d = some i → i < 2 ^ fr.T.d → tget fr'.T i = some v) (hd : fr'.T.d = fr.T.d) (hlt : ∀ i, d = some i → i < fr.T.n) : FrRel γ fr' (a.put d v') := by
  obtain ⟨⟨h1, h2, h3, h4⟩, h5⟩ := hf
  refine ⟨⟨?_, rfl, by rw [hn, hd]; exact h3, fun t u hu => ?_⟩, by rw [hD]; cases d <;> exact h5⟩
  · rw [hn]
    cases d with
    | none => exact h1
    | some i => simp [Act.put, h1]
  · have hil : ∀ i, d = some i → i < 2 ^ fr.T.d := fun i e => Nat.lt_of_lt_of_le (hlt i e) h3
    have ht : t < fr'.T.n := tget_lt hu
    rw [hn] at ht
    have ht2 : t < 2 ^ fr.T.d := Nat.lt_of_lt_of_le ht h3
    cases d with
    | none =>
      rw [ho t (fun i e => by cases e) ht2 hil] at hu
      exact h4 t u hu
    | some i =>
      by_cases hti : t = i
      · subst hti
        rw [hs t rfl ht2] at hu
        injection hu with hu
        subst hu
        have : t < a.tmps.size := by rw [h1]; exact ht
        simpa [Act.put, Array.getD_eq_getD_getElem?, this] using hv
      · rw [ho t (fun j e => by cases e; exact hti) ht2 hil] at hu
        have := h4 t u hu
        simpa [Act.put, Array.getD_eq_getD_getElem?, Array.getElem?_setIfInBounds, Ne.symm hti] using this
theorem putT_rel {β : Type} {fr : Fr} {d : Option Tmp} {v : Value} {k : Fr → Option β} {r : β} (h : putT fr d v k = some r) :
    ∃ fr', k fr' = some r ∧ ∀ γ a v', FrRel γ fr a → VRel γ v v' → FrRel γ fr' (a.put d v') := by
  obtain ⟨fr', hk, hD, hn, ho, hs, hd, hlt⟩ := putT_ok h
  exact ⟨fr', hk, fun γ a v' hf hv => put_rel hf hv hD hn ho hs hd hlt⟩
/-- Is an operation carried out? -/
theorem wanted_ok {γ : Gam} {T : Tm} {n : Nat} {ops : Array Oper} {o : Oper} {a : Act} (hT : TRel γ T n a.tmps) {b : Bool} (h : wantedA ops.toList T o = some b) : Region.wanted o (yielded ops a.tmps) = b := by
  unfold wantedA at h
  unfold Region.wanted
  split at h
  · rename_i hg
    injection h with h
    rw [hg]
    exact h
  · rename_i j want hg
    rw [hg]
    split at h
    case h_2 => cases h
    rename_i g hj
    split at h
    case h_2 => cases h
    rename_i d hd
    have hj' : ops[j]? = some g := by simpa using hj
    split at h
    · rename_i c hc
      injection h with h
      have hr := hT.2.2.2 d _ hc
      have hlt : d < a.tmps.size := by rw [hT.1, ← hT.2.1]; exact tget_lt hc
      have hget : a.tmps[d]? = some (.bool c) := by
        have e : a.tmps.getD d undef = .bool c := hr.bool_inv
        rw [Array.getD_eq_getD_getElem?] at e
        simp only [Array.getElem?_eq_getElem hlt, Option.getD_some] at e ⊢
        rw [e]
      simp only [yielded, hj', Option.bind_some, hd, hget]
      subst h
      cases c <;> cases want <;> rfl
    · rename_i vs hc
      injection h with h
      have hr := hT.2.2.2 d _ hc
      have hlt : d < a.tmps.size := by rw [hT.1, ← hT.2.1]; exact tget_lt hc
      obtain ⟨vs', hv', _⟩ := hr.tuple_inv
      have hget : a.tmps[d]? = some (.tuple vs') := by
        rw [Array.getD_eq_getD_getElem?] at hv'
        simp only [Array.getElem?_eq_getElem hlt, Option.getD_some] at hv' ⊢
        rw [hv']
      simp only [yielded, hj', Option.bind_some, hd, hget]
      exact h
    · cases h
/-- What a function hands back. -/
def resOne (tmps : Array Value) (rv : ResultVar) : Sem Value := match rv with
  | .tmp t => pure (tmps.getD t undef)
  | .cell a t => do loadVar t (← asAddr (tmps.getD a undef))
theorem resA_ok {P : Program} {e : Env} (he : Env.Ok P e) {T : Tm} {s : St} {rv : ResultVar} {v : Value} (h : resA e T s rv = some v) {γ : Gam} {n : Nat} {tmps : Array Value} {w : World} (hT : TRel γ T n tmps) (hS : Sat γ s.at w) :
    ∃ v', VRel γ v v' ∧ (resOne tmps rv).run P w = .ok v' w := by
  cases rv with
  | tmp t => exact ⟨_, hT.2.2.2 t v h, rfl⟩
  | cell a t =>
    simp only [resA] at h
    split at h
    case h_2 => cases h
    rename_i b o i hx hi
    split at h
    case h_2 => cases h
    rename_i c t' room ro hb
    cases hle : Nat.ble (o + i.size) c.length with
    | false => rw [hle] at h; cases h
    | true =>
      rw [hle, cond_true] at h
      have hle' := Nat.le_of_ble_eq_true hle
      obtain ⟨B, O, C, hg, hx'⟩ := (hT.2.2.2 a _ hx).ptr_inv
      have hsb := hS.blk b
      rw [hb] at hsb
      obtain ⟨B', O', C', arr, hg', ha, hsz, hc, _⟩ := hsb.cells_inv
      rw [hg] at hg'; cases hg'
      obtain ⟨hdesc, j, hj, hjs, _, _⟩ := he.ty t i hi
      unfold partL at h
      cases hag : isAggD i.desc with
      | true =>
        simp only [hag, cond_true] at h
        injection h with h
        subst h
        obtain ⟨cs, hl, hrel, hrange⟩ := row_part ha hsz hc hle'
        have hrow : i.desc.isRow = true := by cases hd : i.desc <;> simp [hd, isAggD] at hag <;> rfl
        exact ⟨_, VRel.aggOf hrel, by simp [resOne, hx', asAddr, run_loadVar_mid w B (O + o) t cs i.desc hrange hdesc hrow (by simp [hj, hjs, hl])]⟩
      | false =>
        simp only [hag, cond_false] at h
        obtain ⟨hlt, rfl⟩ := List.getElem?_eq_some_iff.1 h
        obtain ⟨cs, hl, hrel, hrange⟩ := row_part ha hsz hc (o := o) (m := 1) (by omega)
        obtain ⟨v', hv', hvr⟩ := hrel.get (i := 0) (v := c[o]) (by simp [hlt])
        have hcell := hrange 0 v' hv'
        simp only [Nat.add_zero] at hcell
        exact ⟨v', hvr, by simp [resOne, hx', asAddr, loadVar, ok_isAgg he hi, hag, hcell]⟩
theorem resAs_ok {P : Program} {e : Env} (he : Env.Ok P e) {T : Tm} {s : St} {γ : Gam} {n : Nat} {tmps : Array Value} {w : World} (hT : TRel γ T n tmps) (hS : Sat γ s.at w) :
    ∀ (rs : List ResultVar) (vs : List Value), resAs e T s rs = some vs →
      ∃ vs', LRel γ vs vs' ∧ (rs.mapM (resOne tmps)).run P w = .ok vs' w
  | [], vs, h => by simp [resAs] at h; subst h; exact ⟨[], .nil γ, rfl⟩
  | r :: rs, vs, h => by
    simp only [resAs] at h
    split at h
    case h_2 => cases h
    rename_i v hv
    split at h
    case h_2 => cases h
    rename_i us hus
    injection h with h
    subst h
    obtain ⟨v', h1, h2⟩ := resA_ok he hv hT hS
    obtain ⟨vs', h3, h4⟩ := resAs_ok he hT hS rs us hus
    refine ⟨v' :: vs', .cons h1 h3, ?_⟩
    rw [List.mapM_cons]
    simp only [Sem.run_bind, h2, Result.andThen_ok, h4, Sem.run_pure]
theorem results_ok {P : Program} {e : Env} (he : Env.Ok P e) {fn : Func} {T : Tm} {s : St} {vs : List Value} (h : resAs e T s fn.results.toList = some vs) {γ : Gam} {n : Nat} {tmps : Array Value} {w : World} (hT : TRel γ T n tmps) (hS : Sat γ s.at w) :
    ∃ v', (results fn tmps).run P w = .ok v' w ∧ VRel γ (resV vs) v' := by
  obtain ⟨vs', h1, h2⟩ := resAs_ok (P := P) he hT hS _ vs h
  have hrun : (results fn tmps).run P w = .ok (if h : vs'.toArray.size = 1 then vs'.toArray[0] else .tuple vs'.toArray) w := by
    have e1 : results fn tmps = (do let vs ← fn.results.mapM (resOne tmps); pure (if h : vs.size = 1 then vs[0] else .tuple vs)) := rfl
    rw [e1, Array.mapM_eq_mapM_toList]
    simp only [Sem.run_bind, Sem.run_map, h2, Result.andThen_ok, Sem.run_pure]
  refine ⟨_, hrun, ?_⟩
  unfold resV
  split
  · rename_i v
    have hl := h1.1
    match vs', h1, hl with
    | [v'], h1, _ => simpa using h1.2 0 (by simp) (by simp)
  · rename_i hne
    have hne' : ¬ vs'.toArray.size = 1 := by
      intro e
      have hl := h1.1
      have : vs.length = 1 := by rw [hl]; simpa using e
      match vs, this with
      | [v], _ => exact hne v rfl
    rw [dif_neg hne']
    exact VRel.tupleOf h1
end Go.Ev
namespace Go.Ev
open Go Go.RowKit
variable [Rho]
theorem Step.widen {lo hi lo' hi' : Nat} {γ γ' : Gam} {h h' : Hp} {w w' : World} (s : Step lo' hi' γ h w γ' h' w') (h1 : lo ≤ lo') (h2 : hi' ≤ hi) : Step lo hi γ h w γ' h' w' :=
  ⟨s.le, fun id a b => by have := s.dom id a b; omega, s.size, s.frame, s.own, s.sat, s.os, s.tape, s.output, s.ro⟩
theorem Step.join {lo hi : Nat} {γ γ₁ γ₂ : Gam} {h h₁ h₂ : Hp} {w w₁ w₂ : World} (a : Step lo hi γ h w γ₁ h₁ w₁) (b : Step lo hi γ₁ h₁ w₁ γ₂ h₂ w₂) : Step lo hi γ h w γ₂ h₂ w₂ := by
  refine ⟨Gam.le_trans a.le b.le, fun id e e2 => ?_, Nat.le_trans a.size b.size, fun B hB ho => ?_, fun B ho => ?_, b.sat, b.os.trans a.os, b.tape.trans a.tape, b.output.trans a.output, fun id h1 h2 => by have e := b.ro id h1 h2; rw [e] at h1 h2 ⊢; exact a.ro id h1 h2⟩
  · by_cases h1 : γ₁ id = none
    · exact b.dom id h1 e2
    · exact a.dom id e h1
  · rw [b.frame B (Nat.lt_of_lt_of_le hB a.size) (fun ho1 => ?_), a.frame B hB ho]
    rcases a.own B ho1 with h | h
    · exact ho h
    · omega
  · rcases b.own B ho with h | h
    · exact a.own B h
    · exact .inr (Nat.le_trans a.size h)
def ks (h : Nat → Hp) (W : Nat → Nat → Bool) (S : Nat → Bool) : Nat → Hp
  | 0 => h 0
  | m + 1 => fun id => if S m = true ∧ W m id = true then h (m + 1) id else ks h W S m id
def us (u : Nat → Nat → Option Value) (dst : Nat → Option Tmp) (S : Nat → Bool) : Nat → Nat → Option Value
  | 0 => u 0
  | m + 1 => fun t => if S m = true ∧ dst m = some t then u (m + 1) t else us u dst S m t
section
variable {h : Nat → Hp} {W : Nat → Nat → Bool} {N : Nat}
omit [Rho] in
theorem ks_agree (H1 : ∀ m, m < N → ∀ id, W m id = false → h (m + 1) id = h m id) {S : Nat → Bool} {i id : Nat} (hi : i ≤ N) (hs : ∀ j, j < N → W j id = true → (S j = true ↔ j < i)) : ks h W S N id = h i id := by
  have low : ∀ m, m ≤ i → ks h W S m id = h m id := by
    intro m
    induction m with
    | zero => intro _; rfl
    | succ m ih =>
      intro hm
      simp only [ks]
      cases hw : W m id with
      | true => rw [if_pos ⟨(hs m (by omega) hw).2 (by omega), rfl⟩]
      | false => rw [if_neg (by simp), ih (by omega), H1 m (by omega) id hw]
  have high : ∀ d, i + d ≤ N → ks h W S (i + d) id = ks h W S i id := by
    intro d
    induction d with
    | zero => intro _; rfl
    | succ d ih =>
      intro hd
      show ks h W S (i + d + 1) id = _
      simp only [ks]
      rw [if_neg ?_, ih (by omega)]
      intro ⟨h1, h2⟩
      have := (hs (i + d) (by omega) h2).1 h1
      omega
  have := high (N - i) (by omega)
  rw [show i + (N - i) = N by omega] at this
  rw [this, low i (Nat.le_refl _)]
omit [Rho] in
theorem ks_insert {S S' : Nat → Bool} {i : Nat} (hi : i < N) (hSi : S i = false) (hS' : ∀ j, S' j = (S j || decide (j = i))) (hno : ∀ id, W i id = true → ∀ j, i < j → j < N → W j id = true → S j = false) :
    ks h W S' N = fun id => if W i id = true then h (i + 1) id else ks h W S N id := by
  funext id
  have low : ∀ m, m ≤ i → ks h W S' m id = ks h W S m id := by
    intro m
    induction m with
    | zero => intro _; rfl
    | succ m ih =>
      intro hm
      have e : S' m = S m := by rw [hS' m]; simp [show ¬ m = i by omega]
      simp only [ks, e, ih (by omega)]
  have at1 : ks h W S' (i + 1) id = if W i id = true then h (i + 1) id else ks h W S (i + 1) id := by
    have e : S' i = true := by rw [hS' i]; simp
    simp only [ks, e, hSi, true_and, Bool.false_eq_true, false_and, if_false, low i (Nat.le_refl _)]
  have high : ∀ d, i + 1 + d ≤ N → ks h W S' (i + 1 + d) id = if W i id = true then h (i + 1) id else ks h W S (i + 1 + d) id := by
    intro d
    induction d with
    | zero => intro _; exact at1
    | succ d ih =>
      intro hd
      have e : S' (i + 1 + d) = S (i + 1 + d) := by rw [hS']; simp [show ¬ i + 1 + d = i by omega]
      show ks h W S' (i + 1 + d + 1) id = if W i id = true then h (i + 1) id else ks h W S (i + 1 + d + 1) id
      simp only [ks, e, ih (by omega)]
      by_cases hw : W i id = true
      · simp only [hw, if_true]
        rw [if_neg]
        intro ⟨h1, h2⟩
        have := hno id hw (i + 1 + d) (by omega) (by omega) h2
        rw [this] at h1; cases h1
      · simp only [hw, if_false]
        try rfl
  have := high (N - (i + 1)) (by omega)
  rw [show i + 1 + (N - (i + 1)) = N by omega] at this
  exact this
omit [Rho] in
theorem us_agree {u : Nat → Nat → Option Value} {dst : Nat → Option Tmp} (H2 : ∀ m, m < N → ∀ t, dst m ≠ some t → u (m + 1) t = u m t) {S : Nat → Bool} {i t : Nat} (hi : i ≤ N)
    (hs : ∀ j, j < N → dst j = some t → (S j = true ↔ j < i)) : us u dst S N t = u i t := by
  have low : ∀ m, m ≤ i → us u dst S m t = u m t := by
    intro m
    induction m with
    | zero => intro _; rfl
    | succ m ih =>
      intro hm
      simp only [us]
      by_cases hw : dst m = some t
      · rw [if_pos ⟨(hs m (by omega) hw).2 (by omega), hw⟩]
      · rw [if_neg (fun q => hw q.2), ih (by omega), H2 m (by omega) t hw]
  have high : ∀ d, i + d ≤ N → us u dst S (i + d) t = us u dst S i t := by
    intro d
    induction d with
    | zero => intro _; rfl
    | succ d ih =>
      intro hd
      show us u dst S (i + d + 1) t = _
      simp only [us]
      rw [if_neg ?_, ih (by omega)]
      intro ⟨h1, h2⟩
      have := (hs (i + d) (by omega) h2).1 h1
      omega
  have := high (N - i) (by omega)
  rw [show i + (N - i) = N by omega] at this
  rw [this, low i (Nat.le_refl _)]
omit [Rho] in
theorem us_insert {u : Nat → Nat → Option Value} {dst : Nat → Option Tmp} {S S' : Nat → Bool} {i t : Nat} (hi : i < N) (hSi : S i = false) (hS' : ∀ j, S' j = (S j || decide (j = i)))
    (hno : dst i = some t → ∀ j, i < j → j < N → dst j = some t → S j = false) :
    us u dst S' N t = if dst i = some t then u (i + 1) t else us u dst S N t := by
  have low : ∀ m, m ≤ i → us u dst S' m t = us u dst S m t := by
    intro m
    induction m with
    | zero => intro _; rfl
    | succ m ih =>
      intro hm
      have e : S' m = S m := by rw [hS' m]; simp [show ¬ m = i by omega]
      simp only [us, e, ih (by omega)]
  have at1 : us u dst S' (i + 1) t = if dst i = some t then u (i + 1) t else us u dst S (i + 1) t := by
    have e : S' i = true := by rw [hS' i]; simp
    simp only [us, e, hSi, true_and, Bool.false_eq_true, false_and, if_false, low i (Nat.le_refl _)]
  have high : ∀ d, i + 1 + d ≤ N → us u dst S' (i + 1 + d) t = if dst i = some t then u (i + 1) t else us u dst S (i + 1 + d) t := by
    intro d
    induction d with
    | zero => intro _; exact at1
    | succ d ih =>
      intro hd
      have e : S' (i + 1 + d) = S (i + 1 + d) := by rw [hS']; simp [show ¬ i + 1 + d = i by omega]
      show us u dst S' (i + 1 + d + 1) t = if dst i = some t then u (i + 1) t else us u dst S (i + 1 + d + 1) t
      simp only [us, e, ih (by omega)]
      by_cases hw : dst i = some t
      · simp only [hw, if_true]
        rw [if_neg]
        intro ⟨h1, h2⟩
        have := hno hw (i + 1 + d) (by omega) (by omega) h2
        rw [this] at h1; cases h1
      · simp only [hw, if_false]
        try rfl
  have := high (N - (i + 1)) (by omega)
  rw [show i + 1 + (N - (i + 1)) = N by omega] at this
  exact this
end
/-- What is listed holds all that it waits for. -/
def Closed (ops : Array Oper) (S : Nat → Bool) : Prop := ∀ j o, ops[j]? = some o → S j = true → ∀ e ∈ o.after, Region.binds .any e = true → S e.on = true
def Waits (ops : Array Oper) (S : Nat → Bool) (j : Nat) : Prop := ∀ o, ops[j]? = some o → ∀ e ∈ o.after, Region.binds .any e = true → S e.on = true
def Before (ops : Array Oper) (i j : Nat) : Prop := ∀ S, Closed ops S → Waits ops S j → S i = true
theorem draw_any {P : Program} {ops : Array Oper} {roC : Option Nat} {Q : Exit → Act → World → Prop} {n : Nat} {ds : List Deferred} {h : Nat → Hp} {u : Nat → Nat → Option Value} {lo : Nat → Nat} {W L : Nat → Nat → Bool}
    {dst : Nat → Option Tmp} {looks : Nat → List Tmp}
    (hmono : ∀ m, m < ops.size → lo m ≤ lo (m + 1))
    (H1 : ∀ m, m < ops.size → ∀ id, W m id = false → h (m + 1) id = h m id)
    (H2 : ∀ m, m < ops.size → ∀ t, dst m ≠ some t → u (m + 1) t = u m t)
    (HWn : ∀ m, m < ops.size → ∀ id, lo m ≤ id → id < lo (m + 1) → W m id = true)
    (HWl : ∀ m, m < ops.size → ∀ id, W m id = true → L m id = true ∨ (lo m ≤ id ∧ id < lo (m + 1)))
    (HL : ∀ m, m < ops.size → ∀ id, L m id = true → id < lo m)
    (Hnew : ∀ id, lo 0 ≤ id → h 0 id = .dead)
    (Hop : ∀ m, m < ops.size → ∀ (γ : Gam) (K : Hp) (a : Act) (w : World), Sat γ K w → (∀ id, L m id = true → K id = h m id) → (∀ id, lo m ≤ id → id < lo (m + 1) → K id = .dead) →
      (∀ t ∈ looks m, ∀ v, u m t = some v → VRel γ v (a.tmps.getD t undef)) → a.tmps.size = n → (∀ id, lo m ≤ id → id < lo (m + 1) → γ id = none) →
      ∀ Kont : Act → World → Prop, (∀ γ' w' a', Step (lo m) (lo (m + 1)) γ K w γ' (fun id => if W m id = true then h (m + 1) id else K id) w' → a'.defers = a.defers → a'.tmps.size = n →
        (∀ t, dst m ≠ some t → a'.tmps.getD t undef = a.tmps.getD t undef) → (∀ t v, dst m = some t → u (m + 1) t = some v → VRel γ' v (a'.tmps.getD t undef)) → Kont a' w') →
      wpOpIn (FF roC) 0 P ops Q m Kont a w)
    (Hcfl : ∀ i j, i < j → j < ops.size → (∃ id, W i id = true ∧ L j id = true) ∨ (∃ id, L i id = true ∧ W j id = true) ∨ (∃ t, dst i = some t ∧ (t ∈ looks j ∨ dst j = some t)) ∨ (∃ t, dst j = some t ∧ t ∈ looks i) → Before ops i j)
    (Hback : ∀ j o, ops[j]? = some o → ∀ e ∈ o.after, Region.binds .any e = true → e.on < j)
    {γ0 : Gam} {w0 : World} (hfresh : ∀ id, lo 0 ≤ id → id < lo ops.size → γ0 id = none)
    (Hfin : ∀ γ a w, Step (lo 0) (lo ops.size) γ0 (h 0) w0 γ (h ops.size) w → a.defers = ds → a.tmps.size = n → (∀ t v, u ops.size t = some v → VRel γ v (a.tmps.getD t undef)) → Q .normal a w) :
    ∀ (fuel : Nat) (listed : Array Bool) (a : Act) (w : World) (S : Nat → Bool), (∀ j, S j = listed.getD j false) → listed.size = ops.size → Closed ops S →
      (∃ l : List Nat, l.length ≤ fuel ∧ ∀ j, j < ops.size → S j = false → j ∈ l) →
      (∃ γ, Step (lo 0) (lo ops.size) γ0 (h 0) w0 γ (ks h W S ops.size) w ∧ (∀ id, γ0 id = none → γ id ≠ none → ∃ m, m < ops.size ∧ S m = true ∧ lo m ≤ id ∧ id < lo (m + 1)) ∧
        a.defers = ds ∧ a.tmps.size = n ∧ ∀ t v, us u dst S ops.size t = some v → VRel γ v (a.tmps.getD t undef)) →
      wpAnyIn (FF roC) 0 P .any ops Q fuel listed a w := by
  have lomono : ∀ i d, i + d ≤ ops.size → lo i ≤ lo (i + d) := by
    intro i d
    induction d with
    | zero => intro _; exact Nat.le_refl _
    | succ d ih => intro hd; exact Nat.le_trans (ih (by omega)) (hmono (i + d) (by omega))
  have lole : ∀ i j, i ≤ j → j ≤ ops.size → lo i ≤ lo j := fun i j hij hj => by have := lomono i (j - i) (by omega); rwa [show i + (j - i) = j by omega] at this
  intro fuel
  induction fuel with
  | zero =>
    intro listed a w S hS hsz hcl ⟨l, hl, hall⟩ ⟨γ, st, hdom, hds, hn, hv⟩
    have hl0 : l = [] := List.length_eq_zero_iff.1 (by omega)
    subst hl0
    have hone : ∀ j, j < ops.size → S j = true := fun j hj => by
      cases e : S j with
      | true => rfl
      | false => exact absurd (hall j hj e) (by simp)
    have hready : Region.ready .any ops listed = [] := by
      rw [List.eq_nil_iff_forall_not_mem]
      intro j hj
      obtain ⟨h1, o, h2, _⟩ := mem_ready.1 hj
      have hj' : j < ops.size := (Array.getElem?_eq_some_iff.1 h2).1
      have h3 := hone j hj'
      rw [hS j] at h3
      have : j < listed.size := by omega
      simp [this] at h1 h3
      rw [h3] at h1; cases h1
    refine ⟨hready, Hfin γ a w ?_ hds hn (fun t v e => hv t v ?_)⟩
    · have : ks h W S ops.size = h ops.size := funext fun id => ks_agree H1 (Nat.le_refl _) (fun j hj _ => ⟨fun _ => hj, fun _ => hone j hj⟩)
      rw [← this]; exact st
    · rw [us_agree H2 (Nat.le_refl _) (fun j hj _ => ⟨fun _ => hj, fun _ => hone j hj⟩)]; exact e
  | succ fuel ih =>
    intro listed a w S hS hsz hcl ⟨l, hl, hall⟩ ⟨γ, st, hdom, hds, hn, hv⟩
    refine ⟨fun hready => ?_, fun i hi => ?_⟩
    · -- all is listed
      have hone : ∀ j, j < ops.size → S j = true := by
        intro j
        induction j using Nat.strongRecOn with
        | _ j ihj =>
          intro hj
          cases e : S j with
          | true => rfl
          | false =>
            exfalso
            have : j ∈ Region.ready .any ops listed := by
              refine mem_ready.2 ⟨?_, ops[j], Array.getElem?_eq_getElem hj, fun e he hb => ?_⟩
              · rw [hS j] at e
                have : j < listed.size := by omega
                simp [this] at e ⊢
                exact e
              · have h1 := Hback j _ (Array.getElem?_eq_getElem hj) e he hb
                rw [← hS]; exact ihj e.on h1 (by omega)
            rw [hready] at this; cases this
      refine Hfin γ a w ?_ hds hn (fun t v e => hv t v ?_)
      · have : ks h W S ops.size = h ops.size := funext fun id => ks_agree H1 (Nat.le_refl _) (fun j hj _ => ⟨fun _ => hj, fun _ => hone j hj⟩)
        rw [← this]; exact st
      · rw [us_agree H2 (Nat.le_refl _) (fun j hj _ => ⟨fun _ => hj, fun _ => hone j hj⟩)]; exact e
    · obtain ⟨h1, o, h2, h3⟩ := mem_ready.1 hi
      have hi' : i < ops.size := (Array.getElem?_eq_some_iff.1 h2).1
      have hil : i < listed.size := by omega
      have hSi : S i = false := by rw [hS i]; simp [hil] at h1 ⊢; exact h1
      have hwait : Waits ops S i := fun o' ho' e he hb => by
        rw [h2] at ho'; cases ho'
        rw [hS]; exact h3 e he hb
      have hwaitS : ∀ j, S j = true → Waits ops S j := fun j hj o' ho' => hcl j o' ho' hj
      -- who wrote what it reads
      have earlier : ∀ j, j < i → Before ops j i → S j = true := fun j _ hb => hb S hcl hwait
      have later : ∀ j, S j = true → ¬ Before ops i j := fun j hj hb => by
        have := hb S hcl (hwaitS j hj)
        rw [hSi] at this; cases this
      have hagree : ∀ id, L i id = true → ks h W S ops.size id = h i id := by
        intro id hid
        refine ks_agree H1 (Nat.le_of_lt hi') (fun j hj hw => ?_)
        rcases Nat.lt_trichotomy j i with hlt | heq | hgt
        · exact ⟨fun _ => hlt, fun _ => earlier j hlt (Hcfl j i hlt hi' (.inl ⟨id, hw, hid⟩))⟩
        · subst heq
          exact ⟨fun e => (by rw [hSi] at e; cases e), fun e => absurd e (Nat.lt_irrefl _)⟩
        · exact ⟨fun e => absurd (Hcfl i j hgt hj (.inr (.inl ⟨id, hid, hw⟩))) (later j e), fun e => by omega⟩
      have hnoW : ∀ id, W i id = true → ∀ j, i < j → j < ops.size → W j id = true → S j = false := by
        intro id hwi j hij hj hwj
        cases e : S j with
        | false => rfl
        | true =>
          exfalso
          rcases HWl j hj id hwj with q | ⟨q, _⟩
          · exact later j e (Hcfl i j hij hj (.inl ⟨id, hwi, q⟩))
          · have h4 := lole (i + 1) j (by omega) (by omega)
            rcases HWl i hi' id hwi with q2 | ⟨_, q2⟩
            · have := HL i hi' id q2; have := hmono i hi'; omega
            · omega
      have hdead : ∀ id, lo i ≤ id → id < lo (i + 1) → ks h W S ops.size id = .dead := by
        intro id ha hb
        have hwi := HWn i hi' id ha hb
        rw [ks_agree (i := 0) H1 (Nat.zero_le _) (fun j hj hw => ⟨fun e => ?_, fun e => by omega⟩)]
        · exact Hnew id (Nat.le_trans (lole 0 i (Nat.zero_le _) (Nat.le_of_lt hi')) ha)
        · exfalso
          rcases Nat.lt_trichotomy j i with hlt | heq | hgt
          · rcases HWl j hj id hw with q | ⟨_, q⟩
            · have := HL j hj id q; have := lole j i (by omega) (by omega); omega
            · have := lole (j + 1) i (by omega) (by omega); omega
          · subst heq; rw [hSi] at e; cases e
          · have := hnoW id hwi j hgt hj hw
            rw [this] at e; cases e
      have hlook : ∀ t ∈ looks i, ∀ v, u i t = some v → VRel γ v (a.tmps.getD t undef) := by
        intro t ht v hu
        refine hv t v ?_
        rw [us_agree H2 (Nat.le_of_lt hi') (fun j hj hd => ?_)]
        · exact hu
        · rcases Nat.lt_trichotomy j i with hlt | heq | hgt
          · exact ⟨fun _ => hlt, fun _ => earlier j hlt (Hcfl j i hlt hi' (.inr (.inr (.inl ⟨t, hd, .inl ht⟩))))⟩
          · subst heq
            exact ⟨fun e => (by rw [hSi] at e; cases e), fun e => absurd e (Nat.lt_irrefl _)⟩
          · exact ⟨fun e => absurd (Hcfl i j hgt hj (.inr (.inr (.inr ⟨t, hd, ht⟩)))) (later j e), fun e => by omega⟩
      have hfr : ∀ id, lo i ≤ id → id < lo (i + 1) → γ id = none := by
        intro id ha hb
        cases e : γ id with
        | none => rfl
        | some x =>
          exfalso
          have h5 := lole 0 i (Nat.zero_le _) (Nat.le_of_lt hi')
          have h6 := lole (i + 1) ops.size (by omega) (Nat.le_refl _)
          obtain ⟨m, hm, hSm, q1, q2⟩ := hdom id (hfresh id (by omega) (by omega)) (by rw [e]; simp)
          rcases Nat.lt_trichotomy m i with hlt | heq | hgt
          · have := lole (m + 1) i (by omega) (by omega); omega
          · subst heq; rw [hSi] at hSm; cases hSm
          · have := lole (i + 1) m (by omega) (by omega); omega
      refine Hop i hi' γ _ a w st.sat hagree hdead hlook hn hfr _ (fun γ' w' a' st' hds' hn' hoth hown => ?_)
      have hS'0 : ∀ j, (listed.setIfInBounds i true).getD j false = (S j || decide (j = i)) := by
        intro j
        rw [hS j]
        simp only [Array.getD_eq_getD_getElem?, Array.getElem?_setIfInBounds]
        by_cases hj : i = j
        · subst hj; simp [hil]
        · simp [hj, Ne.symm hj]
      refine ih (listed.setIfInBounds i true) a' w' (fun j => (listed.setIfInBounds i true).getD j false) (fun _ => rfl) (by simp [hsz]) ?_ ?_ ?_
      · intro j oj hoj hSj e he hb
        simp only [hS'0] at hSj ⊢
        simp only [Bool.or_eq_true, decide_eq_true_eq] at hSj ⊢
        rcases hSj with q | q
        · exact .inl (hcl j oj hoj q e he hb)
        · subst q; exact .inl (hwait oj hoj e he hb)
      · refine ⟨l.erase i, ?_, fun j hj hSj => ?_⟩
        · have : i ∈ l := hall i hi' hSi
          rw [List.length_erase_of_mem this]; omega
        · simp only [hS'0] at hSj
          simp only [Bool.or_eq_false_iff, decide_eq_false_iff_not] at hSj
          exact (List.mem_erase_of_ne hSj.2).2 (hall j hj hSj.1)
      · have hks : ks h W (fun j => (listed.setIfInBounds i true).getD j false) ops.size = fun id => if W i id = true then h (i + 1) id else ks h W S ops.size id :=
          ks_insert hi' hSi hS'0 hnoW
        refine ⟨γ', ?_, fun id e1 e2 => ?_, hds'.trans hds, hn', fun t v hu => ?_⟩
        · rw [hks]
          exact st.join (st'.widen (lole 0 i (Nat.zero_le _) (Nat.le_of_lt hi')) (lole (i + 1) ops.size (by omega) (Nat.le_refl _)))
        · by_cases hγ : γ id = none
          · have := st'.dom id hγ e2
            exact ⟨i, hi', by simp only [hS'0]; simp, this.1, this.2⟩
          · obtain ⟨m, hm, hSm, q⟩ := hdom id e1 hγ
            exact ⟨m, hm, by simp only [hS'0]; simp [hSm], q⟩
        · rw [us_insert hi' hSi hS'0 (fun hd j hij hj hdj => by
            cases e : S j with
            | false => rfl
            | true => exact absurd (Hcfl i j hij hj (.inr (.inr (.inl ⟨t, hd, .inr hdj⟩)))) (later j e))] at hu
          by_cases hd : dst i = some t
          · rw [if_pos hd] at hu; exact hown t v hd hu
          · rw [if_neg hd] at hu
            rw [hoth t hd]
            exact (hv t v hu).mono st'.le
end Go.Ev
namespace Go.Ev
open Go Go.RowKit
variable [Rho]
/-- A step that was made where only some names are seen is a step of the whole. -/
theorem Step.lift {lo hi : Nat} {γ γ' : Gam} {hr hr' K : Hp} {w w' : World} (st : Step lo hi γ hr w γ' hr' w') (hK : Sat γ K w) (W : Nat → Bool)
    (ha : ∀ id, hr id = K id ∨ hr id = .dead) (hb : ∀ id, W id = false → hr' id = hr id) (hc : ∀ id, W id = true → hr id = K id) (hd : ∀ id, lo ≤ id → id < hi → K id = .dead) :
    Step lo hi γ K w γ' (fun id => if W id = true then hr' id else K id) w' := by
  have ownK : ∀ B, Own γ hr B → Own γ K B := fun B ⟨j, O, C, h1, h2⟩ => ⟨j, O, C, by (rcases ha j with e | e); (rw [← e]; exact h1); (rw [e] at h1; cases h1), h2⟩
  have seen : ∀ id, (hr id).alive = true → hr id = K id := fun id h => by
    rcases ha id with e | e
    · exact e
    · rw [e] at h; cases h
  have back : ∀ id B O C, (K id).alive = true → γ' id = some (B, O, C) → γ id = some (B, O, C) := fun id B O C h e => by
    cases h0 : γ id with
    | none =>
      obtain ⟨q1, q2⟩ := st.dom id h0 (by rw [e]; exact fun q => nomatch q)
      rw [hd id q1 q2] at h; cases h
    | some x => rw [← e]; exact (st.le id x h0).symm
  refine Step0.up hK.frz ⟨st.le, st.dom, st.size, fun B hB ho => st.frame B hB (fun h => ho (ownK B h)), fun B ho => ?_, ⟨fun id => ?_, fun i j B O C O' C' ai aj ei ej => ?_⟩, st.os, st.tape, st.output, fun id a1 a2 => ?_⟩
  · obtain ⟨id, O, C, h1, h2⟩ := ho
    cases hw : W id with
    | true =>
      simp only [hw, if_true] at h1
      rcases st.own B ⟨id, O, C, h1, h2⟩ with q | q
      · exact .inl (ownK B q)
      · exact .inr q
    | false =>
      simp only [hw, Bool.false_eq_true, if_false] at h1
      exact .inl ⟨id, O, C, h1, back id B O C (AB.alive_of_own h1) h2⟩
  · cases hw : W id with
    | true => simp only [if_true]; exact st.sat.blk id
    | false =>
      simp only [Bool.false_eq_true, if_false]
      rcases ha id with e | e
      · have := st.sat.blk id
        rw [hb id hw, e] at this
        exact this
      · by_cases hal : (K id).alive = true
        · refine (hK.blk id).keep st.le (fun h0 => ?_) (fun B O C h1 h2 => st.frame B ?_ (fun ⟨j, O', C', q1, q2⟩ => ?_))
          · by_cases h3 : γ' id = none
            · exact h3
            · obtain ⟨q1, q2⟩ := st.dom id h0 h3
              rw [hd id q1 q2] at hal; cases hal
          · exact (hK.blk id).at h1 _ _ _ h2
          · have hj := seen j (AB.alive_of_own q1)
            have : j = id := hK.inj j id B O' C' O C (by rw [← hj]; exact AB.alive_of_own q1) h1 q2 h2
            subst this
            rw [e] at q1; cases q1
        · have hdd : K id = .dead := by cases hk : K id <;> rw [hk] at hal <;> first | rfl | exact absurd rfl hal
          rw [hdd]; trivial
  · have cross : ∀ i j B O C O' C', W i = true → W j = false → (hr' i).alive = true → (K j).alive = true → γ' i = some (B, O, C) → γ' j = some (B, O', C') → i = j := by
      intro i j B O C O' C' hi hj ai aj ei ej
      have ej0 := back j B O' C' aj ej
      cases ho : (hr' i).own with
      | true =>
        rcases st.own B ⟨i, O, C, ho, ei⟩ with ⟨m, O2, C2, q1, q2⟩ | q
        · have hm := seen m (AB.alive_of_own q1)
          have : m = j := hK.inj m j B O2 C2 O' C' (by rw [← hm]; exact AB.alive_of_own q1) aj q2 ej0
          subst this
          exact st.sat.inj i m B O C O' C' ai (by rw [hb m hj]; exact AB.alive_of_own q1) ei ej
        · have := (hK.blk j).at aj _ _ _ ej0; omega
      | false =>
        have e1 := st.ro i ai ho
        have e2 := hc i hi
        have ai' : (K i).alive = true := by rw [← e2, ← e1]; exact ai
        exact hK.inj i j B O C O' C' ai' aj (back i B O C ai' ei) ej0
    cases hi : W i with
    | true =>
      cases hj : W j with
      | true => simp only [hi, hj, if_true] at ai aj; exact st.sat.inj i j B O C O' C' ai aj ei ej
      | false => simp only [hi, if_true] at ai; simp only [hj, Bool.false_eq_true, if_false] at aj; exact cross i j B O C O' C' hi hj ai aj ei ej
    | false =>
      cases hj : W j with
      | true => simp only [hi, Bool.false_eq_true, if_false] at ai; simp only [hj, if_true] at aj; exact (cross j i B O' C' O C hj hi aj ai ej ei).symm
      | false => simp only [hi, Bool.false_eq_true, if_false] at ai; simp only [hj, Bool.false_eq_true, if_false] at aj; exact hK.inj i j B O C O' C' ai aj (back i B O C ai ei) (back j B O' C' aj ej)
  · cases hw : W id with
    | true => simp only [hw, if_true] at a1 a2 ⊢; rw [st.ro id a1 a2]; exact hc id hw
    | false => simp only [Bool.false_eq_true, if_false]
theorem Sat.sub {γ : Gam} {h h' : Hp} {w : World} (hs : Sat γ h w) (ha : ∀ id, h' id = h id ∨ h' id = .dead) : Sat γ h' w := by
  refine ⟨fun id => ?_, fun B o e => ⟨(hs.frz B o e).1, fun ⟨id, O, C, h1, h2⟩ => (hs.frz B o e).2 ⟨id, O, C, by (rcases ha id with q | q); (rw [← q]; exact h1); (rw [q] at h1; cases h1), h2⟩⟩, fun i j B O C O' C' ai aj => hs.inj i j B O C O' C' ?_ ?_⟩
  · rcases ha id with e | e
    · rw [e]; exact hs.blk id
    · rw [e]; trivial
  · rcases ha i with e | e
    · rw [← e]; exact ai
    · rw [e] at ai; cases ai
  · rcases ha j with e | e
    · rw [← e]; exact aj
    · rw [e] at aj; cases aj
def exC : Ex → Exit
  | .normal => .normal
  | .exit id => .exit id
  | .ret => .ret
section
variable (P : Program)
def CodeOk (c : Code) (ro : Option Nat) (fr : Fr) (s : St) (ex : Ex) (fr' : Fr) (s' : St) : Prop :=
  ∀ (γ : Gam) (a : Act) (w : World) (roC : Option Nat), RoRel γ ro roC → FrRel γ fr a → Sat γ s.at w → Fresh γ s s' →
    ∀ Q : Exit → Act → World → Prop, (∀ γ' a' w', Step s.next s'.next γ s.at w γ' s'.at w' → FrRel γ' fr' a' → Q (exC ex) a' w') → c.wpIn (FF roC) 0 P Q a w
def OpOk (o : Oper) (T : Tm) (s : St) (v : Value) (s' : St) : Prop :=
  ∀ (γ : Gam) (a : Act) (w : World) (roC : Option Nat), TRel γ T T.n a.tmps → Sat γ s.at w → Fresh γ s s' →
    ∀ (K : Act → World → Prop) (Q : Exit → Act → World → Prop), (∀ γ' w' v', Step s.next s'.next γ s.at w γ' s'.at w' → VRel γ' v v' → K (a.put o.dst v') w') → o.wpIn (FF roC) 0 P a w K Q
def OpsOk (all : Array Oper) (rest : List Oper) (ro : Option Nat) (fr : Fr) (s : St) (fr' : Fr) (s' : St) : Prop :=
  ∀ i, all.toList.drop i = rest → ∀ (γ : Gam) (a : Act) (w : World) (roC : Option Nat), RoRel γ ro roC → FrRel γ fr a → Sat γ s.at w → Fresh γ s s' →
    ∀ Q : Exit → Act → World → Prop, (∀ γ' a' w', Step s.next s'.next γ s.at w γ' s'.at w' → FrRel γ' fr' a' → Q .normal a' w') → wpOpsIn (FF roC) 0 P all Q ((List.range all.size).drop i) a w
def CallOk (f : FuncId) (args : List Value) (s : St) (v : Value) (s' : St) : Prop :=
  ∀ (γ : Gam) (args' : Array Value) (w : World), LRel γ args args'.toList → Sat γ s.at w → Fresh γ s s' →
    ∀ R : Ending → World → Prop, (∀ γ' w' v', Step s.next s'.next γ s.at w γ' s'.at w' → VRel γ' v v' → R (.returned v') w') → CallsIn Fence.wide 0 P f args' w R
def YieldOk (l : Nat) (args : List Value) (s : St) (v : Value) (s' : St) : Prop :=
  ∀ (γ : Gam) (args' : Array Value) (w : World) (L O C : Nat), γ l = some (L, O, C) → LRel γ args args'.toList → Sat γ s.at w → Fresh γ s s' →
    ∀ R : Ending → World → Prop, (∀ γ' w' v', Step s.next s'.next γ s.at w γ' s'.at w' → VRel γ' v v' → R (.returned v') w') → ∀ roC : Option Nat,
      ∃ f tmps assign body, (Instr.yield L args').run P w = .ok (.round L f tmps assign body) w ∧ RoundIn (FF roC) 0 P L f tmps assign body w R
end
omit [Rho] in
theorem maskK_ok {β : Type} (T : Tm) : ∀ (xs : List Operand) (acc : PT Value) (k : Tm → Option β) (r : β), maskK T xs acc k = some r →
    ∃ T', k T' = some r ∧ T'.n = T.n ∧ T'.d = T.d ∧ (T.n ≤ 2 ^ T.d → ∀ t v, tget T' t = some v → tget ⟨acc, T.n, T.d⟩ t = some v ∨ (Operand.tmp t ∈ xs ∧ tget T t = some v))
  | [], acc, k, r, h => ⟨_, h, rfl, rfl, fun _ t v e => .inl e⟩
  | x :: xs, acc, k, r, h => by
    have skip : maskK T xs acc k = some r → ∃ T', k T' = some r ∧ T'.n = T.n ∧ T'.d = T.d ∧ (T.n ≤ 2 ^ T.d → ∀ t v, tget T' t = some v → tget ⟨acc, T.n, T.d⟩ t = some v ∨ (Operand.tmp t ∈ x :: xs ∧ tget T t = some v)) := fun h => by
      obtain ⟨T', h1, h2, h3, h4⟩ := maskK_ok T xs acc k r h
      exact ⟨T', h1, h2, h3, fun hd t v e => (h4 hd t v e).imp id (fun ⟨a, b⟩ => ⟨List.mem_cons_of_mem _ a, b⟩)⟩
    cases x with
    | tmp t0 =>
      simp only [maskK] at h
      split at h
      · rename_i v0 hv0
        rw [PT.setK_eq] at h
        obtain ⟨T', h1, h2, h3, h4⟩ := maskK_ok T xs _ k r h
        refine ⟨T', h1, h2, h3, fun hd t v e => ?_⟩
        rcases h4 hd t v e with q | ⟨a, b⟩
        · have hlt := tget_lt q
          have ht0 := tget_lt hv0
          simp only [tget] at q
          cases hb : Nat.blt t T.n with
          | false => rw [hb] at q; cases q
          | true =>
            rw [hb, cond_true, PT.get_set T.d acc t0 t v0 (by omega) (by have : t < T.n := hlt; omega)] at q
            by_cases htt : t = t0
            · subst htt
              rw [if_pos rfl] at q
              injection q with q
              subst q
              exact .inr ⟨List.mem_cons_self, hv0⟩
            · rw [if_neg htt] at q
              exact .inl (by simp only [tget, hb, cond_true]; exact q)
        · exact .inr ⟨List.mem_cons_of_mem _ a, b⟩
      · exact skip h
    | const c => exact skip h
    | global g => exact skip h
    | func f => exact skip h
end Go.Ev
namespace Go.Ev
open Go Go.RowKit
variable [Rho]
omit [Rho] in
theorem FF_fn (roC : Option Nat) (f : FuncId) : (FF roC).fn f := trivial
omit [Rho] in
theorem FF_depth {roC : Option Nat} (h : (FF roC).depth.isSome = true) {q : Prop} : q := by simp [FF, Fence.wide] at h
omit [Rho] in
theorem callsIn_FF {P : Program} {f : FuncId} {args : Array Value} {w : World} {R : Ending → World → Prop} (h : CallsIn Fence.wide 0 P f args w R) (roC : Option Nat) : CallsIn (FF roC) 0 P f args w R := by
  cases roC with
  | none => exact h
  | some l => exact h
theorem HOk.op {P : Program} {o : Oper} {T : Tm} {s s' : St} {v : Value} (h : HOk P o T s s' v) (hd : ∀ c, o.op ≠ .defer c) : OpOk P o T s v s' := by
  intro γ a w roC hT hS hf K Q hK
  obtain ⟨γ', w', v', st, hv, hrun⟩ := h γ T.n a w hT hS hf
  refine ⟨fun f _ => FF_fn roC f, ?_⟩
  rw [Oper.semAt_eq _ _ _ hd]
  rcases hrun with hrun | ⟨h1, h2, hrun⟩
  · rw [hrun]; exact hK γ' w' v' st hv
  · rw [hrun]; subst h1 h2; exact hK γ' w' _ st hv
theorem pure_HOk {P : Program} {e : Env} (he : Env.Ok P e) {o : Oper} {T : Tm} {s : St} {v : Value} (h : evalPure P e T o = some v) : HOk P o T s s v := by
  intro γ n a w hT hS _
  obtain ⟨v', h1, h2⟩ := evalPure_ok he hT h w
  exact ⟨γ, w, v', Step.refl hS, h1, .inl h2⟩
theorem plainOp_ok {β : Type} {P : Program} {e : Env} (he : Env.Ok P e) {o : Oper} {fr : Fr} {s : St} {k : Value → St → Option β} {r : β} (h : plainOpT P e o fr s k = some r) (hd : ∀ c, o.op ≠ .defer c) (hw : s.Wf) :
    ∃ v s', k v s' = some r ∧ Raw s s' ∧ OpOk P o fr.T s v s' := by
  unfold plainOpT at h
  have heap : heapS e fr.T s o.op k = some r → ∃ v s', k v s' = some r ∧ Raw s s' ∧ OpOk P o fr.T s v s' := fun h => by
    obtain ⟨v, s', h1, h2, h3⟩ := heapS_ok (P := P) he h hw
    exact ⟨v, s', h1, h2, h3.op hd⟩
  cases hh : isHeapOp o.op with
  | true => rw [hh, cond_true] at h; exact heap h
  | false =>
    rw [hh, cond_false] at h
    split at h
    · rename_i v hv
      exact ⟨v, s, h, Raw.refl hw, (pure_HOk he hv).op hd⟩
    · exact heap h
theorem callFunc_ok {P : Program} {e : Env} (he : Env.Ok P e) {g : FuncId} {fn : Func} (h : e.fnOf g = some fn) {c : Code} (hb : fn.body = some c) (args : Array Value) (w : World) : (callFunc g args).run P w = .ok (.enter g args) w := by
  obtain ⟨h1, h2⟩ := he.fn g fn h
  have h3 : ¬ fn.name = "runtime.NumGoroutine" := by simpa using h2
  simp [callFunc, h1, h3, hb]
theorem LRel.toA {γ : Gam} {l l' : List Value} (h : LRel γ l l') {a : Array Value} (e : a.toList = l') : LRel γ l a.toList := by rw [e]; exact h
theorem func_inv {γ : Gam} {g : FuncId} {fi ca : Array Value} {v' : Value} (h : VRel γ (.func (.func g) fi ca) v') : ∃ fi' ca', v' = .func (.func g) fi' ca' ∧ LRel γ fi.toList fi'.toList ∧ LRel γ ca.toList ca'.toList := by
  cases h with
  | func fn hf f f' c c' hs h gs g => exact ⟨f', c', rfl, ARel.toList ⟨hs, h⟩, ARel.toList ⟨gs, g⟩⟩
theorem yield_inv {γ : Gam} {l : Nat} {fi ca : Array Value} {v' : Value} (h : VRel γ (.func (.yield l) fi ca) v') : ∃ L O C, v' = .func (.yield L) #[] #[] ∧ γ l = some (L, O, C) ∧ fi = #[] ∧ ca = #[] := by
  cases h with
  | func fn hf f f' c c' hs h gs g => exact absurd rfl (hf l)
  | yield h => exact ⟨_, _, _, rfl, h, rfl, rfl⟩
/-! ### what is asked of each task -/
structure Row where
  fr : Fr
  s : St
  l : List Nat
  wr : List Nat
  ran : Bool
def PutOk (fr : Fr) (d : Option Tmp) (v : Value) (fr' : Fr) : Prop :=
  fr'.D = fr.D ∧ fr'.T.n = fr.T.n ∧
      (∀ t, (∀ i, d = some i → t ≠ i) → t < 2 ^ fr.T.d → (∀ i, d = some i → i < 2 ^ fr.T.d) → tget fr'.T t = tget fr.T t) ∧
      (∀ i, d = some i → i < 2 ^ fr.T.d → tget fr'.T i = some v) ∧ fr'.T.d = fr.T.d ∧ (∀ i, d = some i → i < fr.T.n)
def RowOk (P : Program) (all : Array Oper) (row next : Row) (m : Nat) : Prop :=
  ∃ o v, all[m]? = some o ∧ PutOk row.fr o.dst v next.fr ∧
    ((row.ran = false ∧ wantedA all.toList row.fr.T o = some false ∧ v = undef ∧ next.s = row.s ∧ row.l = [] ∧ row.wr = []) ∨
     (row.ran = true ∧ wantedA all.toList row.fr.T o = some true ∧ ∃ (T' : Tm) (s2 : St), Raw ⟨row.s.heap, row.s.next, [], row.s.next, row.l⟩ s2 ∧ OpOk P o T' ⟨row.s.heap, row.s.next, [], row.s.next, row.l⟩ v s2 ∧
        T'.n = row.fr.T.n ∧ T'.d = row.fr.T.d ∧ (row.fr.T.n ≤ 2 ^ row.fr.T.d → ∀ t u, tget T' t = some u → Operand.tmp t ∈ o.op.operands.toList ∧ tget row.fr.T t = some u) ∧
        row.wr = s2.wr ∧ next.s.heap = s2.heap ∧ next.s.next = s2.next ∧ next.s.thr = row.s.thr ∧ next.s.allow = row.s.allow ∧
        (∀ id, id ∈ next.s.wr ↔ id ∈ row.s.wr ∨ (id ∈ s2.wr ∧ id < row.s.thr)) ∧ (∀ id ∈ row.l, id < row.s.next ∧ row.s.sees id = true)))
def recOf (tr : Nat → Row) (m : Nat) : Rec := ⟨m, (tr m).l, (tr m).wr, (tr m).s.next, (tr (m + 1)).s.next⟩
def pairOk (ms : List Nat) (x y : Rec) : Prop := (ms.getD y.i 0).testBit x.i = true ∨ clash x y = false
def TOk {β : Type} (P : Program) : Task β → β → Prop
  | .code c ro fr s k, r => s.Wf → ∃ ex fr' s', k ex fr' s' = some r ∧ Raw s s' ∧ CodeOk P c ro fr s ex fr' s'
  | .ops all rest ro fr s k, r => s.Wf → ∃ fr' s', k fr' s' = some r ∧ Raw s s' ∧ OpsOk P all rest ro fr s fr' s'
  | .draw all ms i rest _ acc fr s k, r => s.Wf → all.toList.drop i = rest → i ≤ all.size → ∃ tr : Nat → Row, (tr i).fr = fr ∧ (tr i).s = s ∧ k (tr all.size).fr (tr all.size).s = some r ∧
      (∀ m, i ≤ m → m < all.size → RowOk P all (tr m) (tr (m + 1)) m) ∧
      (∀ m, i ≤ m → m < all.size → (tr m).ran = true → ∀ x ∈ acc, pairOk ms x (recOf tr m)) ∧
      (∀ a b, i ≤ a → a < b → b < all.size → (tr a).ran = true → (tr b).ran = true → pairOk ms (recOf tr a) (recOf tr b))
  | .op o _ fr s k, r => s.Wf → ∃ v s', k v s' = some r ∧ Raw s s' ∧ OpOk P o fr.T s v s'
  | .call f args s k, r => s.Wf → ∃ v s', k v s' = some r ∧ Raw s s' ∧ CallOk P f args s v s'
  | .yield l args s k, r => s.Wf → ∃ v s', k v s' = some r ∧ Raw s s' ∧ YieldOk P l args s v s'
section
variable {β : Type} {P : Program} {e : Env} (he : Env.Ok P e) {ih : Task β → Option β} (hih : ∀ t r, ih t = some r → TOk P t r)
include he hih
theorem opT_ok {o : Oper} {fr : Fr} {s : St} {k : Value → St → Option β} {r : β} (hcall : ∀ f args s k r, ih (.call f args s k) = some r → ∃ fn c, e.fnOf f = some fn ∧ fn.body = some c) (h : opT P e ih o fr s k o.op = some r) (hw : s.Wf) :
    ∃ v s', k v s' = some r ∧ Raw s s' ∧ OpOk P o fr.T s v s' := by
  unfold opT at h
  split at h
  · -- a call of a function value
    rename_i f args tys hop
    unfold callVT at h
    split at h
    · rename_i g first captured vs hf hvs
      obtain ⟨v, s', hk, hraw, hok⟩ := hih _ _ h hw
      obtain ⟨fn, c, hfn, hbody⟩ := hcall _ _ _ _ _ h
      refine ⟨v, s', hk, hraw, fun γ a w roC hT hS hfr K Q hK => ⟨fun f _ => FF_fn roC f, ?_⟩⟩
      obtain ⟨fi', ca', hf', r1, r2⟩ := func_inv (aev_rel hT hf)
      have r3 := aevs_rel hT hvs
      rw [Oper.semAt_eq _ _ _ (by intro c; rw [hop]; exact fun x => nomatch x)]
      have hrun : (execOp a.eval o).run P w = .ok (.enter g ((fi' ++ args.map a.eval) ++ ca')) w := by
        simp [execOp, hop, resolve, hf', Deferred.ofValue, invoke, callFunc_ok he hfn hbody]
      rw [hrun]
      refine ⟨fun h => FF_depth h, callsIn_FF (hok γ _ w ?_ hS hfr _ (fun γ' w' v' st hv => ?_)) roC⟩
      · refine LRel.toA (r1.append (r3.append r2)) ?_
        simp
      · exact hK γ' w' v' st hv
    · rename_i l fi ca vs hf hvs
      obtain ⟨v, s', hk, hraw, hok⟩ := hih _ _ h hw
      refine ⟨v, s', hk, hraw, fun γ a w roC hT hS hfr K Q hK => ⟨fun f _ => FF_fn roC f, ?_⟩⟩
      obtain ⟨L, O, C, hf', hγ, _, _⟩ := yield_inv (aev_rel hT hf)
      have r3 := aevs_rel hT hvs
      rw [Oper.semAt_eq _ _ _ (by intro c; rw [hop]; exact fun x => nomatch x)]
      obtain ⟨g, tmps, assign, body, h1, h2⟩ := hok γ (args.map a.eval) w L O C hγ (LRel.toA r3 (by simp)) hS hfr
        (fun | .returned v, w'' => K (a.put o.dst v) w'' | .panicked chain, w'' => Q (.panic chain) a w'' | .outgrown, _ => LetsOut Q) (fun γ' w' v' st hv => hK γ' w' v' st hv) roC
      have hrun : (execOp a.eval o).run P w = .ok (.round L g tmps assign body) w := by
        simp [execOp, hop, resolve, hf', Deferred.ofValue, invoke, h1]
      rw [hrun]
      exact ⟨fun h => FF_depth h, h2⟩
    · cases h
  · -- a call through an interface
    rename_i rcv name args tys hop
    unfold callIT at h
    split at h
    · rename_i t v0 vs hf hvs
      split at h
      · rename_i g hg
        obtain ⟨v, s', hk, hraw, hok⟩ := hih _ _ h hw
        obtain ⟨fn, c, hfn, hbody⟩ := hcall _ _ _ _ _ h
        refine ⟨v, s', hk, hraw, fun γ a w roC hT hS hfr K Q hK => ⟨fun f _ => FF_fn roC f, ?_⟩⟩
        obtain ⟨u', hf', r1⟩ := (aev_rel hT hf).iface_inv
        have r3 := aevs_rel hT hvs
        rw [Oper.semAt_eq _ _ _ (by intro c; rw [hop]; exact fun x => nomatch x)]
        have hA : #[Value.iface t u'] ++ args.map a.eval = (Value.iface t u' :: (args.map a.eval).toList).toArray := by
          apply Array.ext'
          simp
        have hex : ((Value.iface t u' :: (args.map a.eval).toList).toArray).extract 1 (Value.iface t u' :: (args.map a.eval).toList).toArray.size = args.map a.eval := by
          apply Array.ext'
          rw [Array.toList_extract]
          simp [List.extract]
          exact List.take_of_length_le (by simp)
        have h0 : ((Value.iface t u' :: (args.map a.eval).toList).toArray)[0]? = some (.iface t u') := rfl
        have hrun : (execOp a.eval o).run P w = .ok (.enter g (#[u'] ++ args.map a.eval)) w := by
          simp only [execOp, hop, resolve, hf', Sem.run_bind, Sem.run_pure, Result.andThen_ok, invoke, hA, h0, callMethod, hex, run_program, he.meth t name g hg, callFunc_ok he hfn hbody]
        rw [hrun]
        refine ⟨fun h => FF_depth h, callsIn_FF (hok γ _ w ?_ hS hfr _ (fun γ' w' v' st hv => ?_)) roC⟩
        · refine LRel.toA (LRel.cons r1 r3) ?_
          simp
        · exact hK γ' w' v' st hv
      · cases h
    · cases h
  · cases h
  · rename_i hn1 hn2 hn3
    exact plainOp_ok he h (fun c hc => hn3 c hc) hw
omit he in
theorem opsT_ok {all : Array Oper} {ro : Option Nat} {fr : Fr} {s : St} {k : Fr → St → Option β} {rest : List Oper} {r : β} (h : opsT ih all ro fr s k rest = some r) (hw : s.Wf) :
    ∃ fr' s', k fr' s' = some r ∧ Raw s s' ∧ OpsOk P all rest ro fr s fr' s' := by
  have idx : ∀ {i : Nat} {o : Oper} {os : List Oper}, all.toList.drop i = o :: os → all[i]? = some o ∧ all.toList.drop (i + 1) = os ∧ (List.range all.size).drop i = i :: (List.range all.size).drop (i + 1) := by
    intro i o os hi
    have hlt : i < all.toList.length := by
      rcases Nat.lt_or_ge i all.toList.length with q | q
      · exact q
      · rw [List.drop_eq_nil_of_le q] at hi; cases hi
    rw [List.drop_eq_getElem_cons hlt] at hi
    injection hi with h1 h2
    refine ⟨?_, h2, ?_⟩
    · have : all.toList[i]? = some o := by rw [List.getElem?_eq_getElem hlt, h1]
      simpa using this
    · rw [List.drop_eq_getElem_cons (by simpa using hlt)]
      simp
  unfold opsT at h
  split at h
  · refine ⟨fr, s, h, Raw.refl hw, fun i hi γ a w roC hro hfr hS _ Q hQ => ?_⟩
    have : (List.range all.size).drop i = [] := by
      refine List.drop_eq_nil_of_le ?_
      have := List.drop_eq_nil_iff.1 hi
      simpa using this
    rw [this]
    exact hQ γ a w (Step.refl hS) hfr
  · rename_i o os
    split at h
    · rename_i hwant
      obtain ⟨v, s1, hk, hraw1, hok⟩ := hih _ _ h hw
      obtain ⟨fr1, hk2, hput⟩ := putT_rel hk
      obtain ⟨fr', s', hk3, hraw2, hops⟩ := hih _ _ hk2 hraw1.wf
      refine ⟨fr', s', hk3, hraw1.trans hraw2, fun i hi γ a w roC hro hfr hS hfresh Q hQ => ?_⟩
      obtain ⟨h1, h2, h3⟩ := idx hi
      rw [h3]
      simp only [wpOpsIn, h1, wanted_ok hfr.1 hwant, if_true]
      refine hok γ a w roC hfr.1 hS (hfresh.left hraw2.next) _ _ (fun γ1 w1 v1 st1 hv1 => ?_)
      refine hops (i + 1) h2 γ1 _ w1 roC (hro.mono st1.le) (hput γ1 a v1 (hfr.mono st1.le) hv1) st1.sat (hfresh.right hraw1.next st1) Q (fun γ2 a2 w2 st2 hf2 => ?_)
      exact hQ γ2 a2 w2 (st1.trans hraw1.next hraw2.next st2) hf2
    · rename_i hwant
      obtain ⟨fr1, hk2, hput⟩ := putT_rel h
      obtain ⟨fr', s', hk3, hraw2, hops⟩ := hih _ _ hk2 hw
      refine ⟨fr', s', hk3, hraw2, fun i hi γ a w roC hro hfr hS hfresh Q hQ => ?_⟩
      obtain ⟨h1, h2, h3⟩ := idx hi
      rw [h3]
      simp only [wpOpsIn, h1, wanted_ok hfr.1 hwant, Bool.false_eq_true, if_false]
      refine ⟨fun f _ => FF_fn roC f, ?_⟩
      exact hops (i + 1) h2 γ _ w roC hro (hput γ a undef hfr (.tuple _ _ rfl (fun i h1 _ => by simp at h1))) hS hfresh Q hQ
    · cases h
end
end Go.Ev
namespace Go.Ev
open Go Go.RowKit
variable [Rho]
omit [Rho] in
theorem exitTo_len (id : Nat) : ∀ (k k' : List Item), exitTo id k = some k' → k'.length < k.length + 1
  | [], k', h => by simp [exitTo] at h
  | x :: k, k', h => by
    have ih := exitTo_len id k
    cases x with
    | inBlock id' =>
      simp only [exitTo] at h
      split at h
      · injection h with h; subst h; simp; omega
      · have := ih k' h; simp; omega
    | _ => simp only [exitTo] at h; have := ih k' h; simp; omega
omit [Rho] in
theorem todo_of_lone {fr fr' : Frame} {cs cs' : List Frame} {w w' : World} (h : lone fr cs w = lone fr' cs' w') : fr = fr' := by
  have := congrArg (fun m => m.gs) h
  simp [lone] at this
  exact this.1
omit [Rho] in
/-- A round, and then the loop again. -/
theorem wpIn_loop_again {F : Fence} {n : Nat} {P : Program} {c : Code} {Q : Exit → Act → World → Prop} {a : Act} {w : World}
    (h : c.wpIn F n P (Exit.then ((Code.loop c).wpIn F n P Q) Q) a w) (hng : ∀ l a w, ¬ Q (.goto l) a w) (hno : ∀ a w, ¬ Q .outgrown a w) : (Code.loop c).wpIn F n P Q a w := by
  intro b k cs hro hb hr
  have h0 : (lone (b.atR a (.code (.loop c) :: k)) cs w).fenced P F := fenced_calm hb hr rfl
  obtain ⟨e, a₁, w₁, hq, harr⟩ := h b (.inLoop c :: k) cs hro hb hr
  cases e with
  | normal =>
    obtain ⟨e₂, a₂, w₂, hq₂, harr₂⟩ := hq b k cs hro hb hr
    refine ⟨e₂, a₂, w₂, hq₂, .of_steps (.head h0 stepR_loop harr) ?_⟩
    -- from the loop's statement to its item
    have h1 : (lone (b.atR a₁ (.inLoop c :: k)) cs w₁).fenced P F := fenced_calm hb hr rfl
    have move : ∀ {m : Machine}, StepsIn (Machine.fenced P F) P (lone (b.atR a₁ (.code (.loop c) :: k)) cs w₁) m → lone (b.atR a₁ (.code (.loop c) :: k)) cs w₁ ≠ m →
        StepsIn (Machine.fenced P F) P (lone (b.atR a₁ (.inLoop c :: k)) cs w₁) m := by
      intro m hs hne
      cases hs with
      | refl => exact absurd rfl hne
      | head hI hstep hrest =>
        rw [stepR_loop] at hstep
        injection hstep with hstep
        subst hstep
        exact .head h1 stepR_inLoop hrest
    have ne : ∀ {a' : Act} {k' : List Item} {w' : World}, k' ≠ .code (.loop c) :: k → lone (b.atR a₁ (.code (.loop c) :: k)) cs w₁ ≠ lone (b.atR a' k') cs w' := by
      intro a' k' w' hk heq
      have := congrArg Frame.todo (todo_of_lone heq)
      exact hk this.symm
    have nem : ∀ {a' : Act} {k' : List Item} {w' : World} {md : FrameMode}, md ≠ .run → lone (b.atR a₁ (.code (.loop c) :: k)) cs w₁ ≠ lone { b.atR a' k' with mode := md } cs w' := by
      intro a' k' w' md hk heq
      have := congrArg Frame.mode (todo_of_lone heq)
      exact hk this.symm
    cases e₂ with
    | normal => exact move harr₂ (ne (by intro h; have := congrArg List.length h; simp at this))
    | exit id =>
      exact ⟨fun k' hk => move (harr₂.1 k' (by simp [exitTo, hk])) (ne (by intro h; have h1 := exitTo_len id k k' hk; have := congrArg List.length h; simp at this; omega)),
        fun hr' hk => let ⟨k₁, q1, q2⟩ := harr₂.2 hr' hk; ⟨k₁, q1, move q2 (ne (by intro h; injection h with h; cases h))⟩⟩
    | goto l => exact absurd hq₂ (hng l a₂ w₂)
    | ret =>
      exact ⟨fun hr' => let ⟨todo, q⟩ := harr₂.1 hr'; ⟨todo, move q (nem (by simp))⟩, fun hr' => let ⟨k₁, q⟩ := harr₂.2 hr'; ⟨k₁, move q (ne (by intro h; injection h with h; cases h))⟩⟩
    | panic chain => obtain ⟨todo, q⟩ := harr₂; exact ⟨todo, move q (nem (by simp))⟩
    | outgrown => exact absurd hq₂ (hno a₂ w₂)
  | exit id => exact ⟨_, a₁, w₁, hq, .of_steps (.one h0 stepR_loop) (.pass (x := .inLoop c) rfl (fun _ _ => .inl (by simp)) harr)⟩
  | goto l => exact ⟨_, a₁, w₁, hq, .of_steps (.one h0 stepR_loop) (.pass (x := .inLoop c) rfl (fun _ _ => .inl (by simp)) harr)⟩
  | ret => exact ⟨_, a₁, w₁, hq, .of_steps (.one h0 stepR_loop) (.pass (x := .inLoop c) rfl (fun _ _ => .inl (by simp)) harr)⟩
  | panic ch => exact ⟨_, a₁, w₁, hq, .of_steps (.one h0 stepR_loop) (.pass (x := .inLoop c) rfl (fun _ _ => .inl (by simp)) harr)⟩
  | outgrown => exact ⟨_, a₁, w₁, hq, .of_steps (.one h0 stepR_loop) (.pass (x := .inLoop c) rfl (fun _ _ => .inl (by simp)) harr)⟩
/-! ### parameters -/
omit [Rho] in
theorem setArgs_ok {β : Type} (d : Nat) : ∀ (vs : List Value) (T : PT Value) (i : Nat) (k : PT Value → Option β) (r : β), setArgs d T i vs k = some r → i + vs.length ≤ 2 ^ d →
    ∃ T', k T' = some r ∧ ∀ j, j < 2 ^ d → PT.get d T' j = if i ≤ j ∧ j < i + vs.length then vs[j - i]? else PT.get d T j
  | [], T, i, k, r, h, _ => ⟨T, h, fun j _ => by rw [if_neg (fun ⟨a, b⟩ => by simp at b; omega)]⟩
  | v :: vs, T, i, k, r, h, hl => by
    simp only [setArgs, forceV_eq, PT.setK_eq, forceNat_eq] at h
    simp only [List.length_cons] at hl
    obtain ⟨T', h1, h2⟩ := setArgs_ok d vs _ (i + 1) k r h (by omega)
    refine ⟨T', h1, fun j hj => ?_⟩
    rw [h2 j hj]
    by_cases hji : j = i
    · subst hji
      rw [if_neg (by omega), if_pos ⟨Nat.le_refl _, by simp⟩, PT.get_set d T j j v hj hj]
      simp
    · by_cases hin : i + 1 ≤ j ∧ j < i + 1 + vs.length
      · rw [if_pos hin, if_pos ⟨by omega, by simp; omega⟩]
        have : j - i = (j - (i + 1)) + 1 := by omega
        rw [this, List.getElem?_cons_succ]
      · rw [if_neg hin, if_neg (by simp; omega), PT.get_set d T i j v (by omega) hj, if_neg hji]
omit [Rho] in
theorem depthOf_le {n : Nat} (h : n ≤ 1024) : n ≤ 2 ^ depthOf n := by
  unfold depthOf
  cases h1 : Nat.ble n 16 with
  | true => have := Nat.le_of_ble_eq_true h1; simp; omega
  | false =>
    cases h2 : Nat.ble n 64 with
    | true => have := Nat.le_of_ble_eq_true h2; simp; omega
    | false =>
      cases h3 : Nat.ble n 256 with
      | true => have := Nat.le_of_ble_eq_true h3; simp; omega
      | false => simp; omega
theorem args_rel {γ : Gam} {d n : Nat} {T : PT Value} {vs : List Value} {args : Array Value} (hn : n ≤ 2 ^ d) (hlen : vs.length ≤ n) (hr : LRel γ vs args.toList)
    (hT : ∀ j, j < 2 ^ d → PT.get d T j = if 0 ≤ j ∧ j < 0 + vs.length then vs[j - 0]? else PT.get d .nil j) : TRel γ ⟨T, n, d⟩ n (args ++ Array.replicate (n - args.size) undef) := by
  have hsz : args.size = vs.length := by have := hr.1; simp at this; omega
  refine ⟨by simp; omega, rfl, hn, fun t v hv => ?_⟩
  have ht := tget_lt hv
  have ht' : t < n := ht
  simp only [tget, show Nat.blt t n = true from Nat.ble_eq_true_of_le ht', cond_true] at hv
  rw [hT t (by omega)] at hv
  by_cases h1 : t < vs.length
  · rw [if_pos ⟨Nat.zero_le _, by omega⟩, Nat.sub_zero, List.getElem?_eq_getElem h1] at hv
    injection hv with hv
    subst hv
    have h2 : t < args.size := by omega
    have := hr.2 t h1 (by simpa using h2)
    simp only [Array.getElem_toList] at this
    simpa [Array.getD_eq_getD_getElem?, Array.getElem?_append, h2] using this
  · rw [if_neg (by omega), PT.get_nil] at hv
    cases hv
theorem setParams_ok {β : Type} (d n : Nat) : ∀ (ps : List Tmp) (vs : List Value) (T : PT Value) (k : PT Value → Option β) (r : β), setParams d T ps vs k = some r → ps.length = vs.length → allLt n ps = true →
    ∃ T', k T' = some r ∧ ∀ (γ : Gam) (vs' : List Value) (tmps : Array Value), n ≤ 2 ^ d → LRel γ vs vs' → TRel γ ⟨T, n, d⟩ n tmps → TRel γ ⟨T', n, d⟩ n ((ps.zip vs').foldl (fun tmps (t, a) => tmps.setIfInBounds t a) tmps)
  | [], [], T, k, r, h, _, _ => ⟨T, h, fun γ vs' tmps _ _ hT => by simpa using hT⟩
  | [], _ :: _, _, _, _, _, h, _ => by simp at h
  | _ :: _, [], _, _, _, _, h, _ => by simp at h
  | p :: ps, v :: vs, T, k, r, h, hl, ha => by
    simp only [setParams, forceV_eq, PT.setK_eq] at h
    simp only [allLt] at ha
    cases hp : Nat.blt p n with
    | false => rw [hp] at ha; cases ha
    | true =>
      rw [hp, cond_true] at ha
      have hp' : p < n := Nat.le_of_ble_eq_true hp
      obtain ⟨T', h1, h2⟩ := setParams_ok d n ps vs _ k r h (by simpa using hl) ha
      refine ⟨T', h1, fun γ vs' tmps hn hr hT => ?_⟩
      match vs', hr with
      | [], hr => have := hr.1; simp at this
      | v' :: vs', hr =>
        have hv : VRel γ v v' := hr.2 0 (Nat.zero_lt_succ _) (Nat.zero_lt_succ _)
        have hrs : LRel γ vs vs' := by simpa using hr.drop 1
        have := h2 γ vs' (tmps.setIfInBounds p v') hn hrs ⟨by simpa using hT.1, rfl, hn, fun t u hu => ?_⟩
        · simpa using this
        · have ht := tget_lt hu
          have ht' : t < n := ht
          simp only [tget, show Nat.blt t n = true from Nat.ble_eq_true_of_le ht', cond_true] at hu
          rw [PT.get_set d T p t v (Nat.lt_of_lt_of_le hp' hn) (Nat.lt_of_lt_of_le ht' hn)] at hu
          by_cases htp : t = p
          · subst htp
            rw [if_pos rfl] at hu
            injection hu with hu
            subst hu
            have : t < tmps.size := by rw [hT.1]; exact ht'
            simpa [Array.getD_eq_getD_getElem?, this] using hv
          · rw [if_neg htp] at hu
            have := hT.2.2.2 t u (by simp only [tget, show Nat.blt t n = true from Nat.ble_eq_true_of_le ht', cond_true]; exact hu)
            simpa [Array.getD_eq_getD_getElem?, Array.getElem?_setIfInBounds, Ne.symm htp] using this
/-! ### records of loops, marks -/
omit [Rho] in
theorem setHeap {w : World} {B : Nat} {ob ob' : Obj} (hB : w.heap[B]? = some ob) : ({ w with heap := w.heap.setIfInBounds B ob' } : World).heap[B]? = some ob' := by
  have := (Array.getElem?_eq_some_iff.1 hB).1
  simp [this]
omit [Rho] in
theorem setOther {w : World} {B B' : Nat} {ob' : Obj} (hB : B' ≠ B) : ({ w with heap := w.heap.setIfInBounds B ob' } : World).heap[B']? = w.heap[B']? := by
  simp [Array.getElem?_setIfInBounds, Ne.symm hB]
omit [Rho] in
theorem run_getObj {P : Program} {w : World} {B : Nat} {ob : Obj} (hB : w.heap[B]? = some ob) (hc : ∀ c t f, ob ≠ .cells c t f) : (getObj B).run P w = .ok ob w := by
  simp only [getObj, Sem.run, hB]
omit [Rho] in
theorem run_setObj {P : Program} {w : World} {B : Nat} {ob : Obj} (hB : w.heap[B]? = some ob) (hc : ∀ c t f, ob ≠ .cells c t f) (ob' : Obj) : (setObj B ob').run P w = .ok () { w with heap := w.heap.setIfInBounds B ob' } := by
  simp only [setObj, Sem.run, hB]
omit [Rho] in
theorem run_getLoop {P : Program} {w : World} {B : Nat} {r : Loop} (hB : w.heap[B]? = some (.loop r)) : (Instr.getLoop B).run P w = .ok r w := by
  simp [Instr.getLoop, run_getObj hB (by simp)]
theorem SatB.loop_inv {γ : Gam} {w : World} {id : Nat} {st : LoopState} {pend : Option Code} {T : Tm} {ps : Array Tmp} {as bd : Code} {mk : Nat} (h : SatB γ w id (.loop st pend T ps as bd mk)) :
    ∃ B O C fn tmps D O' C', γ id = some (B, O, C) ∧ γ mk = some (D, O', C') ∧
      w.heap[B]? = some (.loop { state := st, pending := pend, fn := fn, tmps := tmps, params := ps, assign := as, body := bd, defers := D }) ∧ TRel γ T T.n tmps := h
/-- The record of a loop is written. -/
theorem Step.loopPut {lo : Nat} {γ : Gam} {h : Hp} {w : World} {l B O C D O' C' : Nat} {st st' : LoopState} {pend pend' : Option Code} {T : Tm} {ps : Array Tmp} {as bd : Code} {mk : Nat} {fn : FuncId} {tmps : Array Value}
    (hs : Sat γ h w) (hl : h l = .loop st pend T ps as bd mk) (hg : γ l = some (B, O, C)) (hm : γ mk = some (D, O', C')) (hT : TRel γ T T.n tmps)
    (hB : w.heap[B]? = some (.loop { state := st, pending := pend, fn := fn, tmps := tmps, params := ps, assign := as, body := bd, defers := D })) :
    Step lo lo γ h w γ (fun j => if j = l then .loop st' pend' T ps as bd mk else h j)
      { w with heap := w.heap.setIfInBounds B (.loop { state := st', pending := pend', fn := fn, tmps := tmps, params := ps, assign := as, body := bd, defers := D }) } :=
  Step.ofPut hs (by rw [hl]; rfl) hg (by simp) (fun B' hB' => setOther hB') rfl rfl rfl ⟨B, O, C, fn, tmps, D, O', C', hg, hm, setHeap hB, hT⟩
/-- The marks among the deferred calls are taken. -/
theorem dropMarks_ok {β : Type} {P : Program} {fn : Func} : ∀ (D : List Nat) (s : St) (k : St → Option β) (r : β), dropMarks D s k = some r → s.Wf →
    ∃ s', k s' = some r ∧ Raw s s' ∧ s'.next = s.next ∧ ∀ (γ : Gam) (w : World) (ds : List Deferred) (tmps : Array Value) (R : Ending → World → Prop), DRel γ D ds → Sat γ s.at w →
      (∀ w', Step s.next s'.next γ s.at w γ s'.at w' → ∃ v, (results fn tmps).run P w' = .ok v w' ∧ R (.returned v) w') → LeavesInM Fence.wide 0 P fn tmps R ds .returning w
  | [], s, k, r, h, hw => ⟨s, h, Raw.refl hw, rfl, fun γ w ds tmps R hD hS hR => by
      match ds, hD with
      | [], _ => exact hR w (Step.refl hS)⟩
  | m :: D, s, k, r, h, hw => by
    simp only [dropMarks] at h
    split at h
    case h_2 => cases h
    rename_i hm
    cases h1 : Nat.blt m s.next with
    | false => rw [h1] at h; cases h
    | true =>
      rw [h1, cond_true] at h
      have h1' : m < s.next := Nat.le_of_ble_eq_true h1
      obtain ⟨s1, hk, hraw, hn, hat⟩ := St.putK_inv h hw (St.sees_of_at hm (by simp)) h1'
      obtain ⟨s', hk2, hraw2, hn2, hrest⟩ := dropMarks_ok (P := P) (fn := fn) D s1 k r hk hraw.wf
      refine ⟨s', hk2, hraw.trans hraw2, hn2.trans hn, fun γ w ds tmps R hD hS hR => ?_⟩
      match ds, hD with
      | d :: ds, ⟨⟨B, O, C, hg, hd⟩, hD⟩ =>
        have hsb := hS.blk m
        rw [hm] at hsb
        obtain ⟨B', O', C', hg', hB⟩ := hsb
        rw [hg] at hg'; cases hg'
        have hst : Step s.next s1.next γ s.at w γ s1.at { w with heap := w.heap.setIfInBounds B (.deferred none) } := by
          rw [hn, hat]
          exact Step.ofPut hS (by rw [hm]; rfl) hg (by simp) (fun B' hB' => setOther hB') rfl rfl rfl trivial
        refine ⟨by simp, .inl ⟨B, { w with heap := w.heap.setIfInBounds B (.deferred none) }, by rw [hd], ?_, ?_⟩⟩
        · simp [Instr.takeDeferred, run_getObj hB (by simp), run_setObj hB (by simp)]
        · exact hrest γ _ ds tmps R hD hst.sat (fun w' st' => hR w' (by rw [hn2, hn] ; rw [hn] at hst; rw [hn2, hn] at st'; exact hst.trans (Nat.le_refl _) (Nat.le_refl _) st'))
end Go.Ev
namespace Go.Ev
open Go Go.RowKit
variable [Rho]
section
variable {β : Type} {P : Program} {e : Env} (he : Env.Ok P e) {ih : Task β → Option β} (hih : ∀ t r, ih t = some r → TOk P t r)
include he hih
theorem callT_ok {f : FuncId} {args : List Value} {s : St} {k : Value → St → Option β} {r : β} (h : callT e ih args s k (e.fnOf f) = some r) (hw : s.Wf) :
    ∃ v s', k v s' = some r ∧ Raw s s' ∧ CallOk P f args s v s' := by
  unfold callT at h
  split at h
  case h_2 => cases h
  rename_i fn hfn
  split at h
  case h_2 => cases h
  rename_i c hc
  cases h1 : Nat.ble args.length fn.ntmps with
  | false => rw [h1] at h; cases h
  | true =>
  cases h2 : Nat.ble fn.ntmps 1024 with
  | false => rw [h1, h2] at h; cases h
  | true =>
    rw [h1, h2, cond_true, cond_true, forceNat_eq, forceNat_eq] at h
    have h1' := Nat.le_of_ble_eq_true h1
    have hd := depthOf_le (Nat.le_of_ble_eq_true h2)
    obtain ⟨T, hk, hT⟩ := setArgs_ok (depthOf fn.ntmps) args .nil 0 _ r h (by omega)
    obtain ⟨ex, fr1, s1, hk1, hraw1, hcode⟩ := hih _ _ hk hw
    have main : ∀ (hex : ex = .normal ∨ ex = .ret), (dropMarks fr1.D s1 fun s2 => match resAs e fr1.T s2 fn.results.toList with | some vs => k (resV vs) s2 | none => none) = some r →
        ∃ v s', k v s' = some r ∧ Raw s s' ∧ CallOk P f args s v s' := by
      intro hex hdm
      obtain ⟨s2, hk2, hraw2, hn2, hmarks⟩ := dropMarks_ok (P := P) (fn := fn) fr1.D s1 _ r hdm hraw1.wf
      split at hk2
      case h_2 => cases hk2
      rename_i vs hvs
      refine ⟨_, s2, hk2, hraw1.trans hraw2, fun γ args' w hargs hS hfresh R hR => ?_⟩
      refine callsIn_of_wp_marks (he.fn f fn hfn).1 hc trivial ?_
      have hTr := args_rel hd h1' hargs hT
      have hF : Fence.wide = FF none := rfl
      rw [hF]
      refine hcode γ { tmps := args' ++ Array.replicate (fn.ntmps - args'.size) undef, defers := [] } w none trivial ⟨hTr, trivial⟩ hS (hfresh.left hraw2.next) _ (fun γ1 a1 w1 st1 hf1 => ?_)
      have hl : LeavesInM Fence.wide 0 P fn a1.tmps R a1.defers .returning w1 := by
        refine hmarks γ1 w1 a1.defers a1.tmps R hf1.2 st1.sat (fun w2 st2 => ?_)
        obtain ⟨v', hr, hv⟩ := results_ok he hvs hf1.1 st2.sat
        exact ⟨v', hr, hR γ1 w2 v' (st1.trans hraw1.next hraw2.next st2) hv⟩
      rcases hex with rfl | rfl <;> exact hl
    unfold retK at hk1
    cases ex with
    | exit id => cases hk1
    | normal => exact main (.inl rfl) hk1
    | ret => exact main (.inr rfl) hk1
omit he in
theorem yieldT_ok {l : Nat} {args : List Value} {s : St} {k : Value → St → Option β} {r : β} (h : yieldT ih l args s k (s.at l) = some r) (hw : s.Wf) :
    ∃ v s', k v s' = some r ∧ Raw s s' ∧ YieldOk P l args s v s' := by
  unfold yieldT at h
  split at h
  case h_2 => cases h
  rename_i st0 pend0 t n d ps assign body mk hl
  cases h1 : Nat.beq args.length ps.size with
  | false => rw [h1] at h; cases h
  | true =>
  cases h2 : allLt n ps.toList with
  | false => rw [h1, h2] at h; cases h
  | true =>
    rw [h1, h2, cond_true, cond_true] at h
    have h1' := Nat.eq_of_beq_eq_true h1
    obtain ⟨T1, hk, hT1⟩ := setParams_ok d n ps.toList args t _ r h (by simpa using h1'.symm) h2
    obtain ⟨ex1, fr1, s1, hk1, hraw1, hassign⟩ := hih _ _ hk hw
    unfold beginK at hk1
    cases ex1 with
    | exit id => cases hk1
    | ret => cases hk1
    | normal =>
    simp only at hk1
    split at hk1
    case h_2 => cases hk1
    rename_i pend1 T2 ps1 as1 bd1 mk1 hl1
    cases h3 : Nat.blt l s1.next with
    | false => rw [h3] at hk1; cases hk1
    | true =>
    rw [h3, cond_true] at hk1
    have h3' : l < s1.next := Nat.le_of_ble_eq_true h3
    obtain ⟨s2, hk2, hraw2, hn2, hat2⟩ := St.putK_inv hk1 hraw1.wf (St.sees_of_at hl1 (by simp)) h3'
    obtain ⟨ex2, fr2, s3, hk3, hraw3, hbody⟩ := hih _ _ hk2 hraw2.wf
    unfold roundK at hk3
    split at hk3
    case h_2 => cases hk3
    rename_i st3 pend3 T3 ps3 as3 bd3 mk3 hl3
    cases h4 : Nat.blt l s3.next with
    | false => rw [h4] at hk3; cases hk3
    | true =>
    rw [h4, cond_true] at hk3
    have h4' : l < s3.next := Nat.le_of_ble_eq_true h4
    -- the end of the round
    have fin : ∃ v s', k v s' = some r ∧ Raw s3 s' ∧ s'.next = s3.next ∧ v = .bool (jumpOf ex2).isNone ∧ s'.at = fun j => if j = l then .loop (if (jumpOf ex2).isNone then .ready else .done) (jumpOf ex2) T3 ps3 as3 bd3 mk3 else s3.at j := by
      cases ex2 with
      | normal =>
        obtain ⟨s', a1, a2, a3, a4⟩ := St.putK_inv hk3 hraw3.wf (St.sees_of_at hl3 (by simp)) h4'
        exact ⟨_, s', a1, a2, a3, rfl, a4⟩
      | exit id =>
        obtain ⟨s', a1, a2, a3, a4⟩ := St.putK_inv hk3 hraw3.wf (St.sees_of_at hl3 (by simp)) h4'
        exact ⟨_, s', a1, a2, a3, rfl, a4⟩
      | ret =>
        obtain ⟨s', a1, a2, a3, a4⟩ := St.putK_inv hk3 hraw3.wf (St.sees_of_at hl3 (by simp)) h4'
        exact ⟨_, s', a1, a2, a3, rfl, a4⟩
    obtain ⟨v, s', hk4, hraw4, hn4, hv, hat4⟩ := fin
    refine ⟨v, s', hk4, ((hraw1.trans hraw2).trans hraw3).trans hraw4, fun γ args' w L O C hγ hargs hS hfresh R hR roC => ?_⟩
    have hsb := hS.blk l
    rw [hl] at hsb
    obtain ⟨B, O1, C1, fn, tmps, D, O2, C2, hg, hmk, hB, hT⟩ := hsb.loop_inv
    rw [hγ] at hg; cases hg
    have hargsz : args'.size = ps.size := by have := hargs.1; simp at this; omega
    have e2 : s2.next = s1.next := hn2
    have e4 : s'.next = s3.next := hn4
    have n1 := hraw1.next
    have n3 := hraw3.next
    refine ⟨fn, (ps.zip args').foldl (fun tmps (t, a) => tmps.setIfInBounds t a) tmps, assign, body, ?_, ?_⟩
    · simp [Instr.yield, run_getLoop hB, hargsz]
    · refine roundIn_of_wpIn (FF_fn roC fn) ?_
      show assign.wpIn (FF (some L)) 0 P _ _ w
      have hTr : TRel γ ⟨T1, n, d⟩ n ((ps.zip args').foldl (fun tmps (t, a) => tmps.setIfInBounds t a) tmps) := by
        have := hT1 γ args'.toList tmps hT.2.2.1 hargs hT
        rw [← Array.foldl_toList, Array.toList_zip]
        exact this
      refine hassign γ { tmps := (ps.zip args').foldl (fun tmps (t, a) => tmps.setIfInBounds t a) tmps, defers := [] } w (some L) ⟨O, C, hγ⟩ ⟨hTr, trivial⟩ hS (hfresh.left (by omega)) _ (fun γ1 a1 w1 st1 hf1 => ?_)
      have hsb1 := st1.sat.blk l
      rw [hl1] at hsb1
      obtain ⟨B1, P1, Q1, fn1, tmps1, D1, P2, Q2, hg1, hmk1, hB1, hTT1⟩ := hsb1.loop_inv
      have : γ1 l = some (L, O, C) := st1.le _ _ hγ
      rw [this] at hg1; cases hg1
      refine ⟨{ w1 with heap := w1.heap.setIfInBounds L (.loop { state := .busy, pending := pend1, fn := fn1, tmps := tmps1, params := ps1, assign := as1, body := bd1, defers := D1 }) }, ?_, ?_⟩
      · simp [Instr.beginRound, run_getLoop hB1, run_setObj hB1 (by simp)]
      · have st2 : Step s1.next s1.next γ1 s1.at w1 γ1 s2.at { w1 with heap := w1.heap.setIfInBounds L (.loop { state := .busy, pending := pend1, fn := fn1, tmps := tmps1, params := ps1, assign := as1, body := bd1, defers := D1 }) } := by
          rw [hat2]
          exact Step.loopPut st1.sat hl1 this hmk1 hTT1 hB1
        have st12 := st1.trans n1 (Nat.le_refl _) st2
        show body.wpIn (FF (some L)) 0 P _ a1 _
        refine hbody γ1 a1 _ (some L) ⟨O, C, this⟩ hf1 st2.sat ?_ _ (fun γ3 a3 w3 st3 hf3 => ?_)
        · intro id q1 q2
          have := Fresh.right (s1 := s1) hfresh n1 st1 id (by omega) (by omega)
          exact this
        · have hsb3 := st3.sat.blk l
          rw [hl3] at hsb3
          obtain ⟨B3, P3, Q3, fn3, tmps3, D3, P4, Q4, hg3, hmk3, hB3, hTT3⟩ := hsb3.loop_inv
          have g3 : γ3 l = some (L, O, C) := st3.le _ _ this
          rw [g3] at hg3; cases hg3
          rw [e2] at st3 n3
          have st13 : Step s.next s3.next γ s.at w γ3 s3.at w3 := st12.trans n1 n3 st3
          have st4 : Step s3.next s3.next γ3 s3.at w3 γ3 s'.at { w3 with heap := w3.heap.setIfInBounds L (.loop { state := if (jumpOf ex2).isNone then .ready else .done, pending := jumpOf ex2, fn := fn3, tmps := tmps3, params := ps3, assign := as3, body := bd3, defers := D3 }) } := by
            rw [hat4]
            exact Step.loopPut st3.sat hl3 g3 hmk3 hTT3 hB3
          have hend : (Instr.endRound L (jumpOf ex2)).run P w3 = .ok (.bool (jumpOf ex2).isNone) { w3 with heap := w3.heap.setIfInBounds L (.loop { state := if (jumpOf ex2).isNone then .ready else .done, pending := jumpOf ex2, fn := fn3, tmps := tmps3, params := ps3, assign := as3, body := bd3, defers := D3 }) } := by
            simp [Instr.endRound, run_getLoop hB3, run_setObj hB3 (by simp)]
          have hfinal := hR γ3 _ (.bool (jumpOf ex2).isNone) (by rw [e4]; exact st13.trans (by omega) (Nat.le_refl _) st4) (by rw [hv]; exact .bool _)
          cases ex2 with
          | normal => exact ⟨_, _, hend, hfinal⟩
          | exit id => exact ⟨_, _, hend, hfinal⟩
          | ret => exact ⟨_, _, hend, hfinal⟩
end
end Go.Ev
namespace Go.Ev
open Go Go.RowKit
variable [Rho]
omit [Rho] in
theorem visL_mem (s : St) (n : Nat) : ∀ (l : List Nat) (x : Nat), x ∈ visL s n l → x < n ∧ s.sees x = true
  | [], x, h => by cases h
  | y :: l, x, h => by
    simp only [visL] at h
    cases h1 : Nat.blt y n with
    | false => rw [h1] at h; exact visL_mem s n l x h
    | true =>
      cases h2 : s.sees y with
      | false => rw [h1, h2] at h; exact visL_mem s n l x h
      | true =>
        rw [h1, h2] at h
        simp only [cond_true, List.mem_cons] at h
        rcases h with rfl | h
        · exact ⟨Nat.le_of_ble_eq_true h1, h2⟩
        · exact visL_mem s n l x h
omit [Rho] in
theorem orWr_ok {β : Type} (thr : Nat) : ∀ (xs l : List Nat) (k : List Nat → Option β) (r : β), orWr thr xs l k = some r → ∃ l', k l' = some r ∧ ∀ id, id ∈ l' ↔ id ∈ l ∨ (id ∈ xs ∧ id < thr)
  | [], l, k, r, h => ⟨l, h, fun id => by simp⟩
  | x :: xs, l, k, r, h => by
    simp only [orWr] at h
    cases h1 : Nat.blt x thr with
    | false =>
      rw [h1] at h
      obtain ⟨l', a, b⟩ := orWr_ok thr xs l k r h
      have hx : ¬ x < thr := fun q => by have := Nat.ble_eq_true_of_le q; rw [Nat.blt, this] at h1; cases h1
      refine ⟨l', a, fun id => ?_⟩
      rw [b id]
      constructor
      · rintro (q | ⟨q1, q2⟩)
        · exact .inl q
        · exact .inr ⟨List.mem_cons_of_mem _ q1, q2⟩
      · rintro (q | ⟨q1, q2⟩)
        · exact .inl q
        · rcases List.mem_cons.1 q1 with rfl | q1
          · exact absurd q2 hx
          · exact .inr ⟨q1, q2⟩
    | true =>
      have hx : x < thr := Nat.le_of_ble_eq_true h1
      rw [h1, cond_true] at h
      cases h2 : memN x l with
      | true =>
        rw [h2, cond_true] at h
        have hm := (memN_iff x l).1 h2
        obtain ⟨l', a, b⟩ := orWr_ok thr xs l k r h
        refine ⟨l', a, fun id => ?_⟩
        rw [b id]
        constructor
        · rintro (q | ⟨q1, q2⟩)
          · exact .inl q
          · exact .inr ⟨List.mem_cons_of_mem _ q1, q2⟩
        · rintro (q | ⟨q1, q2⟩)
          · exact .inl q
          · rcases List.mem_cons.1 q1 with rfl | q1
            · exact .inl hm
            · exact .inr ⟨q1, q2⟩
      | false =>
        rw [h2, cond_false] at h
        obtain ⟨l', a, b⟩ := orWr_ok thr xs (x :: l) k r h
        refine ⟨l', a, fun id => ?_⟩
        rw [b id, List.mem_cons]
        constructor
        · rintro ((rfl | q) | ⟨q1, q2⟩)
          · exact .inr ⟨List.mem_cons_self, hx⟩
          · exact .inl q
          · exact .inr ⟨List.mem_cons_of_mem _ q1, q2⟩
        · rintro (q | ⟨q1, q2⟩)
          · exact .inl (.inr q)
          · rcases List.mem_cons.1 q1 with rfl | q1
            · exact .inl (.inl rfl)
            · exact .inr ⟨q1, q2⟩
omit [Rho] in
theorem clashes_ok (ms : List Nat) (y : Rec) : ∀ (acc : List Rec), clashes ms y acc = false → ∀ x ∈ acc, pairOk ms x y
  | [], _, x, hx => by cases hx
  | z :: acc, h, x, hx => by
    simp only [clashes] at h
    cases h1 : (ms.getD y.i 0).testBit z.i with
    | true =>
      rw [h1, cond_true] at h
      rcases List.mem_cons.1 hx with rfl | hx
      · exact .inl h1
      · exact clashes_ok ms y acc h x hx
    | false =>
      rw [h1, cond_false] at h
      cases h2 : clash z y with
      | true => rw [h2, cond_true] at h; cases h
      | false =>
        rw [h2, cond_false] at h
        rcases List.mem_cons.1 hx with rfl | hx
        · exact .inr h2
        · exact clashes_ok ms y acc h x hx
omit [Rho] in
theorem drop_cons {all : Array Oper} {i : Nat} {o : Oper} {os : List Oper} (hi : all.toList.drop i = o :: os) : all[i]? = some o ∧ all.toList.drop (i + 1) = os ∧ i < all.size := by
  have hlt : i < all.toList.length := by
    rcases Nat.lt_or_ge i all.toList.length with q | q
    · exact q
    · rw [List.drop_eq_nil_of_le q] at hi; cases hi
  rw [List.drop_eq_getElem_cons hlt] at hi
  injection hi with h1 h2
  refine ⟨?_, h2, by simpa using hlt⟩
  have : all.toList[i]? = some o := by rw [List.getElem?_eq_getElem hlt, h1]
  simpa using this
/-- a trace with one row ahead -/
def trCons (i : Nat) (row : Row) (tr : Nat → Row) : Nat → Row := fun m => if m = i then row else tr m
section
variable {β : Type} {P : Program} {ih : Task β → Option β} (hih : ∀ t r, ih t = some r → TOk P t r)
include hih
theorem drawT_ok {all : Array Oper} {ms : List Nat} {i : Nat} {ro : Option Nat} {acc : List Rec} {fr : Fr} {s : St} {k : Fr → St → Option β} {rest : List Oper} {r : β} (h : drawT ih all ms i ro acc fr s k rest = some r) (hw : s.Wf) :
    TOk P (.draw all ms i rest ro acc fr s k) r := by
  intro _ hdrop hile
  unfold drawT at h
  split at h
  · -- the end
    have hie : i = all.size := by
      have := List.drop_eq_nil_iff.1 hdrop
      simp at this; omega
    subst hie
    exact ⟨fun _ => ⟨fr, s, [], [], false⟩, rfl, rfl, h, fun m a b => by omega, fun m a b => by omega, fun a b c d => by omega⟩
  · rename_i o os
    obtain ⟨ho, hdrop', hi⟩ := drop_cons hdrop
    split at h
    · -- it is carried out
      rename_i hwant
      obtain ⟨hp, nx, wr, thr, allow⟩ := s
      simp only [forceNL_eq] at h
      obtain ⟨T', hk0, hTn, hTd, hT'⟩ := maskK_ok fr.T _ _ _ _ h
      have hw1 : St.Wf ⟨hp, nx, [], nx, visL ⟨hp, nx, wr, thr, allow⟩ nx (touches ⟨hp, nx, wr, thr, allow⟩ fr o)⟩ := ⟨Nat.le_refl _, fun id hid => hw.fresh id hid⟩
      obtain ⟨v, s2, hk1, hraw, hok⟩ := hih _ _ hk0 hw1
      obtain ⟨hp2, nx2, wr2, thr2, allow2⟩ := s2
      unfold drawK at hk1
      simp only at hk1
      cases hcl : clashes ms ⟨i, visL ⟨hp, nx, wr, thr, allow⟩ nx (touches ⟨hp, nx, wr, thr, allow⟩ fr o), wr2, nx, nx2⟩ acc with
      | true => rw [hcl, cond_true] at hk1; cases hk1
      | false =>
      rw [hcl, cond_false] at hk1
      obtain ⟨wr3, hk2, hwr3⟩ := orWr_ok thr wr2 wr _ r hk1
      obtain ⟨fr1, hk3, hput⟩ := putT_ok hk2
      simp only [forceNat_eq] at hk3
      have hnx : nx ≤ nx2 := hraw.next
      have hw2 : St.Wf ⟨hp2, nx2, wr3, thr, allow⟩ := ⟨by have : thr ≤ nx := hw.thr; show thr ≤ nx2; omega, fun id hid => hraw.wf.fresh id hid⟩
      obtain ⟨tr, t1, t2, t3, t4, t5, t6⟩ := hih _ _ hk3 hw2 hdrop' (by omega)
      let row : Row := ⟨fr, ⟨hp, nx, wr, thr, allow⟩, visL ⟨hp, nx, wr, thr, allow⟩ nx (touches ⟨hp, nx, wr, thr, allow⟩ fr o), wr2, true⟩
      have hrow : trCons i row tr i = row := by simp [trCons]
      have hoth : ∀ m, i < m → trCons i row tr m = tr m := fun m hm => by simp [trCons, show ¬ m = i by omega]
      have hrec : recOf (trCons i row tr) i = ⟨i, visL ⟨hp, nx, wr, thr, allow⟩ nx (touches ⟨hp, nx, wr, thr, allow⟩ fr o), wr2, nx, nx2⟩ := by
        unfold recOf
        rw [hrow, hoth (i + 1) (by omega), t2]
      have hrecm : ∀ m, i < m → recOf (trCons i row tr) m = recOf tr m := fun m hm => by
        unfold recOf
        rw [hoth m hm, hoth (m + 1) (by omega)]
      refine ⟨trCons i row tr, by rw [hrow], by rw [hrow], by rw [hoth all.size hi]; exact t3, fun m hm1 hm2 => ?_, fun m hm1 hm2 hran x hx => ?_, fun a b ha hab hb rana ranb => ?_⟩
      · by_cases hmi : m = i
        · subst hmi
          rw [hrow, hoth (m + 1) (by omega)]
          refine ⟨o, v, ho, ?_, .inr ⟨rfl, hwant, T', ⟨hp2, nx2, wr2, thr2, allow2⟩, hraw, hok, hTn, hTd, ?_, rfl, by rw [t2], by rw [t2], by rw [t2], by rw [t2], by rw [t2]; exact hwr3, fun id hid => visL_mem _ _ _ _ hid⟩⟩
          · rw [t1]; exact hput
          · intro hd t u hu
            rcases hT' hd t u hu with q | q
            · exfalso
              simp only [tget, PT.get_nil] at q
              cases hb : Nat.blt t fr.T.n with
              | true => rw [hb] at q; cases q
              | false => rw [hb] at q; cases q
            · exact q
        · rw [hoth m (by omega), hoth (m + 1) (by omega)]
          exact t4 m (by omega) hm2
      · by_cases hmi : m = i
        · subst hmi
          rw [hrec]
          exact clashes_ok ms _ acc hcl x hx
        · rw [hrecm m (by omega)]
          rw [hoth m (by omega)] at hran
          exact t5 m (by omega) hm2 hran x (List.mem_cons_of_mem _ hx)
      · by_cases hai : a = i
        · subst hai
          rw [hrec, hrecm b hab]
          rw [hoth b hab] at ranb
          exact t5 b (by omega) hb ranb _ List.mem_cons_self
        · rw [hrecm a (by omega), hrecm b (by omega)]
          rw [hoth a (by omega)] at rana
          rw [hoth b (by omega)] at ranb
          exact t6 a b (by omega) hab hb rana ranb
    · -- it is passed over
      rename_i hwant
      obtain ⟨fr1, hk3, hput⟩ := putT_ok h
      simp only [forceNat_eq] at hk3
      obtain ⟨tr, t1, t2, t3, t4, t5, t6⟩ := hih _ _ hk3 hw hdrop' (by omega)
      let row : Row := ⟨fr, s, [], [], false⟩
      have hrow : trCons i row tr i = row := by simp [trCons]
      have hoth : ∀ m, i < m → trCons i row tr m = tr m := fun m hm => by simp [trCons, show ¬ m = i by omega]
      have hrecm : ∀ m, i < m → recOf (trCons i row tr) m = recOf tr m := fun m hm => by
        unfold recOf
        rw [hoth m hm, hoth (m + 1) (by omega)]
      refine ⟨trCons i row tr, by rw [hrow], by rw [hrow], by rw [hoth all.size hi]; exact t3, fun m hm1 hm2 => ?_, fun m hm1 hm2 hran x hx => ?_, fun a b ha hab hb rana ranb => ?_⟩
      · by_cases hmi : m = i
        · subst hmi
          rw [hrow, hoth (m + 1) (by omega)]
          exact ⟨o, undef, ho, by rw [t1]; exact hput, .inl ⟨rfl, hwant, rfl, t2, rfl, rfl⟩⟩
        · rw [hoth m (by omega), hoth (m + 1) (by omega)]
          exact t4 m (by omega) hm2
      · by_cases hmi : m = i
        · subst hmi; rw [hrow] at hran; cases hran
        · rw [hrecm m (by omega)]
          rw [hoth m (by omega)] at hran
          exact t5 m (by omega) hm2 hran x hx
      · by_cases hai : a = i
        · subst hai; rw [hrow] at rana; cases rana
        · rw [hrecm a (by omega), hrecm b (by omega)]
          rw [hoth a (by omega)] at rana
          rw [hoth b (by omega)] at ranb
          exact t6 a b (by omega) hab hb rana ranb
    · cases h
end
end Go.Ev
namespace Go.Ev
open Go Go.RowKit
variable [Rho]
/-! ### the text's own order -/
omit [Rho] in
theorem onEarlier_ok : ∀ (os : List Oper) (i : Nat), onEarlier os i = true → ∀ j o, os[j]? = some o → ∀ e ∈ o.after, Region.binds .any e = true → e.on < i + j
  | [], _, _, j, o, h, _, _, _ => by simp at h
  | x :: os, i, h, j, o, hj, e, he, hb => by
    simp only [onEarlier] at h
    cases h1 : (x.after.toList.all fun e => cond (Region.binds .any e) (Nat.blt e.on i) true) with
    | false => rw [h1] at h; cases h
    | true =>
      rw [h1, cond_true] at h
      cases j with
      | zero =>
        simp at hj
        subst hj
        have := List.all_eq_true.1 h1 e (by simpa using he)
        rw [hb, cond_true] at this
        have : e.on < i := Nat.le_of_ble_eq_true this
        omega
      | succ j =>
        have := onEarlier_ok os (i + 1) h j o (by simpa using hj) e he hb
        omega
omit [Rho] in
theorem masksGo_pre : ∀ (os : List Oper) (acc : List Nat), (masksGo os acc).take acc.length = acc ∧ (masksGo os acc).length = acc.length + os.length
  | [], acc => by simp [masksGo]
  | o :: os, acc => by
    have ih := masksGo_pre os (acc ++ [maskOf acc o])
    simp only [masksGo]
    refine ⟨?_, by rw [ih.2]; simp; omega⟩
    have : acc.length ≤ (acc ++ [maskOf acc o]).length := by simp
    have h2 := congrArg (List.take acc.length) ih.1
    rw [List.take_take, Nat.min_eq_left this] at h2
    rw [h2]
    simp
omit [Rho] in
theorem masksGo_at : ∀ (os : List Oper) (acc : List Nat) (j : Nat) (o : Oper), os[j]? = some o → (masksGo os acc)[acc.length + j]? = some (maskOf ((masksGo os acc).take (acc.length + j)) o)
  | [], acc, j, o, h => by simp at h
  | x :: os, acc, 0, o, h => by
    simp at h
    subst h
    have pre := masksGo_pre os (acc ++ [maskOf acc x])
    simp only [masksGo, Nat.add_zero]
    have h1 : (masksGo os (acc ++ [maskOf acc x]))[acc.length]? = some (maskOf acc x) := by
      have := congrArg (fun l => l[acc.length]?) pre.1
      simp only [List.getElem?_take, List.length_append, List.length_singleton, Nat.lt_succ_self, if_true] at this
      rw [this]
      simp
    rw [h1]
    have := (masksGo_pre (x :: os) acc).1
    simp only [masksGo] at this
    rw [this]
  | x :: os, acc, j + 1, o, h => by
    have := masksGo_at os (acc ++ [maskOf acc x]) j o (by simpa using h)
    simp only [List.length_append, List.length_singleton] at this
    simp only [masksGo]
    rw [show acc.length + (j + 1) = acc.length + 1 + j by omega]
    exact this
omit [Rho] in
theorem maskOf_bit (prev : List Nat) (i : Nat) : ∀ (l : List Edge) (s0 : Nat), (l.foldl (fun s e => cond (Region.binds .any e) (s ||| 2 ^ e.on ||| prev.getD e.on 0) s) s0).testBit i = true →
    s0.testBit i = true ∨ ∃ e ∈ l, Region.binds .any e = true ∧ (i = e.on ∨ (prev.getD e.on 0).testBit i = true)
  | [], s0, h => .inl h
  | e :: l, s0, h => by
    simp only [List.foldl_cons] at h
    rcases maskOf_bit prev i l _ h with q | ⟨x, hx, hb, q⟩
    · cases hb : Region.binds .any e with
      | false => rw [hb, cond_false] at q; exact .inl q
      | true =>
        rw [hb, cond_true, Nat.testBit_or, Nat.testBit_or, Nat.testBit_two_pow] at q
        simp only [Bool.or_eq_true, decide_eq_true_eq] at q
        rcases q with (q | q) | q
        · exact .inl q
        · exact .inr ⟨e, List.mem_cons_self, hb, .inl q.symm⟩
        · exact .inr ⟨e, List.mem_cons_self, hb, .inr q⟩
    · exact .inr ⟨x, List.mem_cons_of_mem _ hx, hb, q⟩
omit [Rho] in
theorem mask_before {ops : Array Oper} (hback : ∀ j o, ops[j]? = some o → ∀ e ∈ o.after, Region.binds .any e = true → e.on < j) : ∀ j, j < ops.size → ∀ i, ((masksGo ops.toList []).getD j 0).testBit i = true → Before ops i j := by
  intro j
  induction j using Nat.strongRecOn with
  | _ j ih =>
    intro hj i hbit S hcl hw
    have ho : ops[j]? = some ops[j] := Array.getElem?_eq_getElem hj
    have hat := masksGo_at ops.toList [] j ops[j] (by simp)
    simp only [List.length_nil, Nat.zero_add] at hat
    rw [List.getD_eq_getElem?_getD, hat, Option.getD_some] at hbit
    unfold maskOf at hbit
    rcases maskOf_bit _ i _ 0 hbit with q | ⟨e, he, hb, q⟩
    · simp at q
    · have he' : e ∈ ops[j].after := by simpa using he
      have hlt := hback j _ ho e he' hb
      have hSe := hw _ ho e he' hb
      rcases q with rfl | q
      · exact hSe
      · refine ih e.on hlt (by omega) i ?_ S hcl (fun o' ho' => hcl e.on o' ho' hSe)
        rw [List.getD_eq_getElem?_getD, List.getElem?_take, if_pos hlt, ← List.getD_eq_getElem?_getD] at q
        exact q
omit [Rho] in
theorem pairT_ok (all : Array Oper) (m : Nat) (o : Oper) (j : Nat) : ∀ (xs : List Oper) (i : Nat), pairsT.pairT xs all m o i j = true → ∀ d x, xs[d]? = some x → i + d < j → m.testBit (i + d) = true ∨ x.apart all o = true
  | [], _, _, d, x, h, _ => by simp at h
  | y :: xs, i, h, d, x, hd, hlt => by
    simp only [pairsT.pairT] at h
    have hij : Nat.blt i j = true := Nat.ble_eq_true_of_le (by omega)
    rw [hij, cond_true] at h
    cases d with
    | zero =>
      simp at hd
      subst hd
      cases h1 : m.testBit i with
      | true => exact .inl (by simp)
      | false =>
        rw [h1, cond_false] at h
        cases h2 : y.apart all o with
        | true => exact .inr rfl
        | false => rw [h2] at h; cases h
    | succ d =>
      have hrest : pairsT.pairT xs all m o (i + 1) j = true := by
        cases h1 : m.testBit i with
        | true => rw [h1, cond_true] at h; exact h
        | false =>
          rw [h1, cond_false] at h
          cases h2 : y.apart all o with
          | true => rw [h2, cond_true] at h; exact h
          | false => rw [h2] at h; cases h
      have := pairT_ok all m o j xs (i + 1) hrest d x (by simpa using hd) (by omega)
      rwa [show i + 1 + d = i + (d + 1) by omega] at this
omit [Rho] in
theorem pairsT_ok (ops : List Oper) (all : Array Oper) (ms : List Nat) : ∀ (os : List Oper) (j : Nat), pairsT ops all ms os j = true → ∀ d o, os[d]? = some o → ∀ i x, ops[i]? = some x → i < j + d → (ms.getD (j + d) 0).testBit i = true ∨ x.apart all o = true
  | [], _, _, d, o, h, _, _, _, _ => by simp at h
  | y :: os, j, h, d, o, hd, i, x, hi, hlt => by
    simp only [pairsT] at h
    cases h1 : pairsT.pairT ops all (ms.getD j 0) y 0 j with
    | false => rw [h1] at h; cases h
    | true =>
      rw [h1, cond_true] at h
      cases d with
      | zero =>
        simp at hd
        subst hd
        have := pairT_ok all (ms.getD j 0) y j ops 0 h1 i x hi (by omega)
        simpa using this
      | succ d =>
        have := pairsT_ok ops all ms os (j + 1) h d o (by simpa using hd) i x hi (by omega)
        rwa [show j + 1 + d = j + (d + 1) by omega] at this
omit [Rho] in
theorem anyIn_ok : ∀ (a b : List Nat), anyIn a b = false → ∀ x ∈ a, x ∉ b
  | [], _, _, x, hx => by cases hx
  | y :: a, b, h, x, hx => by
    simp only [anyIn] at h
    cases h1 : memN y b with
    | true => rw [h1] at h; cases h
    | false =>
      rw [h1, cond_false] at h
      rcases List.mem_cons.1 hx with rfl | hx
      · intro q; rw [(memN_iff x b).2 q] at h1; cases h1
      · exact anyIn_ok a b h x hx
omit [Rho] in
theorem anyBetween_ok (lo hi : Nat) : ∀ (l : List Nat), anyBetween lo hi l = false → ∀ x ∈ l, ¬ (lo ≤ x ∧ x < hi)
  | [], _, x, hx => by cases hx
  | y :: l, h, x, hx => by
    simp only [anyBetween] at h
    rcases List.mem_cons.1 hx with rfl | hx'
    · intro ⟨q1, q2⟩
      rw [Nat.ble_eq_true_of_le q1, show Nat.blt x hi = true from Nat.ble_eq_true_of_le q2] at h
      cases h
    · refine anyBetween_ok lo hi l ?_ x hx'
      cases h1 : Nat.ble lo y with
      | false => rw [h1, cond_false] at h; exact h
      | true =>
        rw [h1, cond_true] at h
        cases h2 : Nat.blt y hi with
        | false => rw [h2, cond_false] at h; exact h
        | true => rw [h2] at h; cases h
omit [Rho] in
theorem clash_ok {x y : Rec} (h : clash x y = false) : (∀ id ∈ x.w, id ∉ y.l) ∧ (∀ id ∈ y.l, ¬ (x.lo ≤ id ∧ id < x.hi)) ∧ (∀ id ∈ y.w, id ∉ x.l) := by
  unfold clash at h
  cases h1 : anyIn x.w y.l with
  | true => rw [h1] at h; cases h
  | false =>
    cases h2 : anyBetween x.lo x.hi y.l with
    | true => rw [h1, h2] at h; cases h
    | false =>
      rw [h1, h2] at h
      exact ⟨anyIn_ok _ _ h1, anyBetween_ok _ _ _ h2, anyIn_ok _ _ h⟩
/-- Is an operation carried out? Only what it looks at matters. -/
theorem wanted_ok' {γ : Gam} {T : Tm} {ops : Array Oper} {o : Oper} {a : Act} (hn : a.tmps.size = T.n) (hv : ∀ t ∈ o.looksAt ops, ∀ v, tget T t = some v → VRel γ v (a.tmps.getD t undef)) {b : Bool} (h : wantedA ops.toList T o = some b) :
    Region.wanted o (yielded ops a.tmps) = b := by
  unfold wantedA at h
  unfold Region.wanted
  split at h
  · rename_i hg
    injection h with h
    rw [hg]
    exact h
  · rename_i j want hg
    rw [hg]
    split at h
    case h_2 => cases h
    rename_i g hj
    split at h
    case h_2 => cases h
    rename_i d hd
    have hj' : ops[j]? = some g := by simpa using hj
    have hlook : d ∈ o.looksAt ops := by
      unfold Oper.looksAt
      rw [hg]
      simp [hj', hd]
    split at h
    · rename_i c hc
      injection h with h
      have hr := hv d hlook _ hc
      have hlt : d < a.tmps.size := by rw [hn]; exact tget_lt hc
      have hget : a.tmps[d]? = some (.bool c) := by
        have e : a.tmps.getD d undef = .bool c := hr.bool_inv
        rw [Array.getD_eq_getD_getElem?] at e
        simp only [Array.getElem?_eq_getElem hlt, Option.getD_some] at e ⊢
        rw [e]
      simp only [yielded, hj', Option.bind_some, hd, hget]
      subst h
      cases c <;> cases want <;> rfl
    · rename_i vs hc
      injection h with h
      have hr := hv d hlook _ hc
      have hlt : d < a.tmps.size := by rw [hn]; exact tget_lt hc
      obtain ⟨vs', hv', _⟩ := hr.tuple_inv
      have hget : a.tmps[d]? = some (.tuple vs') := by
        rw [Array.getD_eq_getD_getElem?] at hv'
        simp only [Array.getElem?_eq_getElem hlt, Option.getD_some] at hv' ⊢
        rw [hv']
      simp only [yielded, hj', Option.bind_some, hd, hget]
      exact h
    · cases h
/-! ### the region -/
omit [Rho] in
theorem repFalse (n j : Nat) : (Array.replicate n false).getD j false = false := by
  rw [Array.getD_eq_getD_getElem?, Array.getElem?_replicate]
  split <;> rfl
omit [Rho] in
theorem raw_heap {s s' : St} (h : s.heap = s'.heap) (id : Nat) : s.raw id = s'.raw id := by cases s; cases s'; cases h; rfl
omit [Rho] in
theorem sees_eq {s s' : St} (h : s.thr = s'.thr) (h' : s.allow = s'.allow) (id : Nat) : s.sees id = s'.sees id := by cases s; cases s'; cases h; cases h'; rfl
omit [Rho] in
theorem at_seen {s : St} {id : Nat} (h : s.sees id = true) : s.at id = s.raw id := by simp [St.at, h]
omit [Rho] in
theorem at_unseen {s : St} {id : Nat} (h : s.sees id = false) : s.at id = .dead := by simp [St.at, h]
omit [Rho] in
theorem at_raw_dead {s : St} {id : Nat} (h : s.raw id = .dead) : s.at id = .dead := by
  unfold St.at; rw [h]; cases s.sees id <;> rfl
omit [Rho] in
theorem sees_false {s : St} {id : Nat} (h1 : id < s.thr) (h2 : id ∉ s.allow) : s.sees id = false := by
  cases e : s.sees id with
  | false => rfl
  | true => rcases (St.sees_iff s id).1 e with q | q; · omega
            · exact absurd q h2
section
variable {P : Program} {ops : Array Oper} {tr : Nat → Row} (hrows : ∀ m, m < ops.size → RowOk P ops (tr m) (tr (m + 1)) m) (hwf0 : (tr 0).s.Wf)
include hrows hwf0
theorem row_raw : ∀ m, m ≤ ops.size → Raw (tr 0).s (tr m).s := by
  intro m
  induction m with
  | zero => intro _; exact Raw.refl hwf0
  | succ m ih =>
    intro hm
    have r0 := ih (by omega)
    obtain ⟨o, v, ho, hput, h⟩ := hrows m (by omega)
    rcases h with ⟨_, _, _, hs, _, _⟩ | ⟨_, _, T', s2, hraw, hok, _, _, _, hwr, hh, hn, ht, ha, hw, hl⟩
    · rw [hs]; exact r0
    · refine r0.trans ⟨by rw [hn]; exact hraw.next, ht, ha, fun id q => (hw id).2 (.inl q), fun id q => ?_, fun id hlt hnot => ?_, ⟨by rw [ht, hn]; exact Nat.le_trans r0.wf.thr hraw.next, fun id hid => ?_⟩⟩
      · rcases (hw id).1 q with q | ⟨q1, q2⟩
        · exact .inl q
        · rcases hraw.new id q1 with q3 | ⟨_, q3⟩
          · cases q3
          · have := (hl id q3).2
            rcases (St.sees_iff _ id).1 this with q4 | q4
            · omega
            · exact .inr ⟨q2, q4⟩
      · have h1 : id < (tr m).s.next := Nat.lt_of_lt_of_le hlt r0.wf.thr
        have h2 : id ∉ s2.wr := fun q => hnot ((hw id).2 (.inr ⟨q, hlt⟩))
        rw [raw_heap hh, hraw.same id h1 h2]
        exact raw_heap rfl id
      · rw [raw_heap hh]
        exact hraw.wf.fresh id (by rw [← hn]; exact hid)
omit hwf0 in
theorem row_frame : ∀ m, m ≤ ops.size → (tr m).fr.D = (tr 0).fr.D ∧ (tr m).fr.T.n = (tr 0).fr.T.n ∧ (tr m).fr.T.d = (tr 0).fr.T.d := by
  intro m
  induction m with
  | zero => intro _; exact ⟨rfl, rfl, rfl⟩
  | succ m ih =>
    intro hm
    obtain ⟨h1, h2, h3⟩ := ih (by omega)
    obtain ⟨o, v, ho, ⟨p1, p2, _, _, p3, _⟩, _⟩ := hrows m (by omega)
    exact ⟨p1.trans h1, p2.trans h2, p3.trans h3⟩
theorem region_draw_ok (hmix : P.follows .mixedOrders = true) (hst : staticOk ops = true) (hpairs : ∀ a b, a < b → b < ops.size → (tr a).ran = true → (tr b).ran = true → pairOk (masksGo ops.toList []) (recOf tr a) (recOf tr b)) (id : Nat) (ro : Option Nat) :
    CodeOk P (.region id ops true) ro (tr 0).fr (tr 0).s .normal (tr ops.size).fr (tr ops.size).s := by
  intro γ a w roC hro hfr hS hfresh Q hQ
  refine wpIn_region_any hmix ?_
  unfold staticOk at hst
  cases hE : onEarlier ops.toList 0 with
  | false => rw [hE] at hst; cases hst
  | true =>
  rw [hE, cond_true] at hst
  have hback : ∀ j o, ops[j]? = some o → ∀ e ∈ o.after, Region.binds .any e = true → e.on < j := fun j o ho e he hb => by
    have := onEarlier_ok ops.toList 0 hE j o (by simpa using ho) e he hb
    omega
  have hmask := mask_before hback
  have hpT : ∀ i j x o, i < j → ops[i]? = some x → ops[j]? = some o → ((masksGo ops.toList []).getD j 0).testBit i = true ∨ x.apart ops o = true := fun i j x o hij hi hj => by
    have := pairsT_ok ops.toList ops (masksGo ops.toList []) ops.toList 0 hst j o (by simpa using hj) i x (by simpa using hi) (by omega)
    simpa using this
  have hraw := row_raw hrows hwf0
  have hframe := row_frame hrows
  obtain ⟨⟨hsz, _, hd0, hv0⟩, hD⟩ := hfr
  -- rows that were passed over
  have rowCases : ∀ m, m < ops.size → ((tr m).ran = false ∧ (tr (m + 1)).s = (tr m).s ∧ (tr m).l = [] ∧ (tr m).wr = []) ∨
      ((tr m).ran = true ∧ ∃ s2, Raw ⟨(tr m).s.heap, (tr m).s.next, [], (tr m).s.next, (tr m).l⟩ s2 ∧ (tr m).wr = s2.wr ∧ (tr (m + 1)).s.heap = s2.heap ∧ (tr (m + 1)).s.next = s2.next ∧ (tr (m + 1)).s.thr = (tr m).s.thr ∧ (tr (m + 1)).s.allow = (tr m).s.allow ∧ (∀ id ∈ (tr m).l, id < (tr m).s.next ∧ (tr m).s.sees id = true)) := by
    intro m hm
    obtain ⟨o, v, ho, hput, h⟩ := hrows m hm
    rcases h with ⟨h1, _, _, hs, h2, h3⟩ | ⟨h1, _, T', s2, hr, hok, _, _, _, hwr, hh, hn, ht, ha, hw, hl⟩
    · exact .inl ⟨h1, hs, h2, h3⟩
    · exact .inr ⟨h1, s2, hr, hwr, hh, hn, ht, ha, hl⟩
  have hWl : ∀ m, m < ops.size → ∀ id ∈ (tr m).wr, id ∈ (tr m).l := by
    intro m hm id hid
    rcases rowCases m hm with ⟨_, _, _, h3⟩ | ⟨_, s2, hr, hwr, _⟩
    · rw [h3] at hid; cases hid
    · rw [hwr] at hid
      rcases hr.new id hid with q | ⟨_, q⟩
      · cases q
      · exact q
  have hHeap : ∀ m, m < ops.size → ∀ id, memN id (tr m).wr = false → ¬ ((tr m).s.next ≤ id ∧ id < (tr (m + 1)).s.next) → (tr (m + 1)).s.at id = (tr m).s.at id := by
    intro m hm id h1 h2
    rcases rowCases m hm with ⟨_, hs, _, _⟩ | ⟨_, s2, hr, hwr, hh, hn, ht, ha, hl⟩
    · rw [hs]
    · have hse : (tr (m + 1)).s.sees id = (tr m).s.sees id := sees_eq ht ha id
      have hr0 := hraw m (by omega)
      have hr1 := hraw (m + 1) (by omega)
      have hrw : (tr (m + 1)).s.raw id = (tr m).s.raw id := by
        rcases Nat.lt_or_ge id (tr m).s.next with q | q
        · rw [raw_heap hh, hr.same id q (fun q2 => by rw [← hwr] at q2; rw [(memN_iff id _).2 q2] at h1; cases h1)]
          exact raw_heap rfl id
        · rw [hr0.wf.fresh id q, hr1.wf.fresh id (by omega)]
      unfold St.at
      rw [hse, hrw]
  have main := draw_any (P := P) (ops := ops) (roC := roC) (Q := Q) (n := (tr 0).fr.T.n) (ds := a.defers) (h := fun m => (tr m).s.at) (u := fun m t => tget (tr m).fr.T t) (lo := fun m => (tr m).s.next)
    (W := fun m id => memN id (tr m).wr || (decide ((tr m).s.next ≤ id) && decide (id < (tr (m + 1)).s.next))) (L := fun m id => memN id (tr m).l)
    (dst := fun m => (ops[m]?).bind (·.dst)) (looks := fun m => ((ops[m]?).map (·.looksAt ops)).getD [])
    (fun m hm => by
      rcases rowCases m hm with ⟨_, hs, _, _⟩ | ⟨_, s2, hr, _, _, hn, _⟩
      · simp only [hs]; exact Nat.le_refl _
      · simp only [hn]; exact hr.next)
    (fun m hm id hW => by
      simp only [Bool.or_eq_false_iff, Bool.and_eq_false_iff, decide_eq_false_iff_not] at hW
      exact hHeap m hm id hW.1 (fun q => by rcases hW.2 with q2 | q2; exact q2 q.1; exact q2 q.2))
    (fun m hm t ht => by
      obtain ⟨o, v, ho, ⟨p1, p2, p3, p4, p5, p6⟩, _⟩ := hrows m hm
      simp only [ho, Option.bind_some] at ht
      obtain ⟨f1, f2, f3⟩ := hframe m (by omega)
      have hdm : (tr m).fr.T.n ≤ 2 ^ (tr m).fr.T.d := by rw [f2, f3]; exact hd0
      rcases Nat.lt_or_ge t (tr m).fr.T.n with q | q
      · exact p3 t (fun i hi hti => ht (by rw [hi, hti])) (Nat.lt_of_lt_of_le q hdm) (fun i hi => Nat.lt_of_lt_of_le (p6 i hi) hdm)
      · have none1 : ∀ (T : Tm), T.n ≤ t → tget T t = none := fun T hT => by
          cases e : tget T t with
          | none => rfl
          | some v => have := tget_lt e; omega
        show tget (tr (m + 1)).fr.T t = tget (tr m).fr.T t
        rw [none1 _ (by rw [p2]; exact q), none1 _ q])
    (fun m hm id h1 h2 => by simp [h1, h2])
    (fun m hm id hW => by
      simp only [Bool.or_eq_true, Bool.and_eq_true, decide_eq_true_eq] at hW
      rcases hW with q | q
      · exact .inl ((memN_iff id _).2 (hWl m hm id ((memN_iff id _).1 q)))
      · exact .inr q)
    (fun m hm id hL => by
      rcases rowCases m hm with ⟨_, _, h2, _⟩ | ⟨_, s2, _, _, _, _, _, _, hl⟩
      · simp only [h2] at hL; cases hL
      · exact (hl id ((memN_iff id _).1 hL)).1)
    (fun id hid => at_raw_dead (hwf0.fresh id hid))
    ?_ ?_ hback (γ0 := γ) (w0 := { w with drawn := w.drawn + 1 }) hfresh ?_
  · refine main ops.size (Array.replicate ops.size false) a _ (fun j => (Array.replicate ops.size false).getD j false) (fun _ => rfl) (by simp) ?_ ⟨List.range ops.size, by simp, fun j hj _ => List.mem_range.2 hj⟩ ⟨γ, ?_, fun id h1 h2 => absurd h1 h2, rfl, hsz, ?_⟩
    · intro j o ho hSj
      have hSj' : (Array.replicate ops.size false).getD j false = true := hSj
      rw [repFalse] at hSj'
      cases hSj'
    · have hks : ∀ m, ks (fun m => (tr m).s.at) (fun m id => memN id (tr m).wr || (decide ((tr m).s.next ≤ id) && decide (id < (tr (m + 1)).s.next))) (fun j => (Array.replicate ops.size false).getD j false) m = (tr 0).s.at := by
        intro m
        induction m with
        | zero => rfl
        | succ m ihm =>
          funext id
          have : (Array.replicate ops.size false).getD m false = false := repFalse _ _
          simp only [ks, this, Bool.false_eq_true, false_and, if_false, ihm]
      rw [hks]
      exact Step.refl (hS.drew _)
    · have hus : ∀ m, us (fun m t => tget (tr m).fr.T t) (fun m => (ops[m]?).bind (·.dst)) (fun j => (Array.replicate ops.size false).getD j false) m = tget (tr 0).fr.T := by
        intro m
        induction m with
        | zero => rfl
        | succ m ihm =>
          funext t
          have : (Array.replicate ops.size false).getD m false = false := repFalse _ _
          simp only [us, this, Bool.false_eq_true, false_and, if_false, ihm]
      rw [hus]
      exact hv0
  · -- an operation
    intro m hm γ' K a' w' hSK hagree hdead hlook hn hfr' Kont hK
    obtain ⟨o, v, ho, ⟨p1, p2, p3, p4, p5, p6⟩, hrow⟩ := hrows m hm
    obtain ⟨f1, f2, f3⟩ := hframe m (by omega)
    have hdm : (tr m).fr.T.n ≤ 2 ^ (tr m).fr.T.d := by rw [f2, f3]; exact hd0
    have hsz' : a'.tmps.size = (tr m).fr.T.n := by rw [f2]; exact hn
    have hlook' : ∀ t ∈ o.looksAt ops, ∀ u, tget (tr m).fr.T t = some u → VRel γ' u (a'.tmps.getD t undef) := by
      intro t ht u hu
      exact hlook t (by simpa [ho] using ht) u hu
    have putSize : ∀ v', (a'.put o.dst v').tmps.size = (tr 0).fr.T.n := fun v' => by cases o.dst <;> simp [Act.put, hn]
    have putDef : ∀ v', (a'.put o.dst v').defers = a'.defers := fun v' => by cases o.dst <;> rfl
    have putOth : ∀ v' t, (ops[m]?).bind (·.dst) ≠ some t → (a'.put o.dst v').tmps.getD t undef = a'.tmps.getD t undef := fun v' t ht => by
      rw [ho, Option.bind_some] at ht
      cases hd : o.dst with
      | none => rfl
      | some i =>
        rw [hd] at ht
        have : i ≠ t := fun e => ht (by rw [e])
        simp [Act.put, Array.getD_eq_getD_getElem?, Array.getElem?_setIfInBounds, this]
    have putOwn : ∀ (γ2 : Gam) v', VRel γ2 v v' → ∀ t u, (ops[m]?).bind (·.dst) = some t → tget (tr (m + 1)).fr.T t = some u → VRel γ2 u ((a'.put o.dst v').tmps.getD t undef) := fun γ2 v' hv' t u ht hu => by
      rw [ho, Option.bind_some] at ht
      have hlt := p6 t ht
      rw [p4 t ht (Nat.lt_of_lt_of_le hlt hdm)] at hu
      injection hu with hu
      subst hu
      have : t < a'.tmps.size := by rw [hsz']; exact hlt
      simpa [ht, Act.put, Array.getD_eq_getD_getElem?, this] using hv'
    rcases hrow with ⟨_, hwant, hvu, hs, hl0, hw0⟩ | ⟨hran, hwant, T', s2, hr, hok, hTn, hTd, hT', hwr, hh, hnx, ht, ha, hw, hl⟩
    · unfold wpOpIn
      simp only [ho, wanted_ok' hsz' hlook' hwant, Bool.false_eq_true, if_false]
      refine ⟨fun f _ => FF_fn roC f, hK γ' w' _ ?_ (putDef _) (putSize _) (putOth _) (putOwn γ' undef (by rw [hvu]; exact .tuple _ _ rfl (fun i h1 _ => by simp at h1)))⟩
      have hW0 : ∀ id, (memN id (tr m).wr || (decide ((tr m).s.next ≤ id) && decide (id < (tr (m + 1)).s.next))) = false := fun id => by
        rw [hw0, hs]
        simp only [memN, Bool.false_or, Bool.and_eq_false_iff, decide_eq_false_iff_not]
        omega
      have hfun : (fun id => if (memN id (tr m).wr || (decide ((tr m).s.next ≤ id) && decide (id < (tr (m + 1)).s.next))) = true then (tr (m + 1)).s.at id else K id) = K := by
        funext id
        rw [hW0 id]
        simp
      rw [hfun]
      exact Step.refl hSK
    · have hs1at : ∀ id, (⟨(tr m).s.heap, (tr m).s.next, [], (tr m).s.next, (tr m).l⟩ : St).at id = if id ∈ (tr m).l then K id else .dead := by
        intro id
        by_cases hid : id ∈ (tr m).l
        · rw [if_pos hid, at_seen ((St.sees_iff _ id).2 (.inr hid)), hagree id ((memN_iff id _).2 hid), at_seen (hl id hid).2]
          exact raw_heap rfl id
        · rw [if_neg hid]
          rcases Nat.lt_or_ge id (tr m).s.next with q | q
          · exact at_unseen (sees_false q hid)
          · refine at_raw_dead ?_
            exact (raw_heap (s := ⟨(tr m).s.heap, (tr m).s.next, [], (tr m).s.next, (tr m).l⟩) (s' := (tr m).s) rfl id).trans ((hraw m (by omega)).wf.fresh id q)
      have hlo : (tr m).s.next ≤ (tr (m + 1)).s.next := by rw [hnx]; exact hr.next
      unfold wpOpIn
      simp only [ho, wanted_ok' hsz' hlook' hwant, if_true]
      refine hok γ' a' w' roC ⟨by rw [hTn]; exact hsz', rfl, by rw [hTn, hTd]; exact hdm, fun t u hu => ?_⟩ (hSK.sub fun id => ?_) (fun id q1 q2 => hfr' id q1 (by rw [hnx]; exact q2)) Kont Q (fun γ2 w2 v2 st2 hv2 => ?_)
      · obtain ⟨q1, q2⟩ := hT' hdm t u hu
        refine hlook' t ?_ u q2
        unfold Oper.looksAt
        refine List.mem_append_left _ (List.mem_filterMap.2 ⟨.tmp t, q1, rfl⟩)
      · rw [hs1at id]
        by_cases hid : id ∈ (tr m).l
        · exact .inl (if_pos hid)
        · exact .inr (if_neg hid)
      · refine hK γ2 w2 _ ?_ (putDef _) (putSize _) (putOth _) (putOwn γ2 v2 hv2)
        have hWmem : ∀ id, (memN id (tr m).wr || (decide ((tr m).s.next ≤ id) && decide (id < (tr (m + 1)).s.next))) = true → id ∈ (tr m).l ∨ ((tr m).s.next ≤ id ∧ id < (tr (m + 1)).s.next) := fun id q => by
          simp only [Bool.or_eq_true, Bool.and_eq_true, decide_eq_true_eq] at q
          rcases q with q | q
          · exact .inl (hWl m hm id ((memN_iff id _).1 q))
          · exact .inr q
        have lifted := Step.lift st2 hSK (fun id => memN id (tr m).wr || (decide ((tr m).s.next ≤ id) && decide (id < (tr (m + 1)).s.next)))
          (fun id => by
            rw [hs1at id]
            by_cases hid : id ∈ (tr m).l
            · exact .inl (if_pos hid)
            · exact .inr (if_neg hid))
          (fun id hW => by
            simp only [Bool.or_eq_false_iff, Bool.and_eq_false_iff, decide_eq_false_iff_not] at hW
            have hs2 : s2.sees id = (⟨(tr m).s.heap, (tr m).s.next, [], (tr m).s.next, (tr m).l⟩ : St).sees id := sees_eq hr.thr hr.allow id
            have hrw : s2.raw id = (⟨(tr m).s.heap, (tr m).s.next, [], (tr m).s.next, (tr m).l⟩ : St).raw id := by
              rcases Nat.lt_or_ge id (tr m).s.next with q | q
              · exact hr.same id q (fun q2 => by rw [← hwr] at q2; rw [(memN_iff id _).2 q2] at hW; cases hW.1)
              · have q2 : s2.next ≤ id := by rw [← hnx]; rcases hW.2 with q3 | q3 <;> omega
                exact (hr.wf.fresh id q2).trans ((raw_heap (s := ⟨(tr m).s.heap, (tr m).s.next, [], (tr m).s.next, (tr m).l⟩) (s' := (tr m).s) rfl id).trans ((hraw m (by omega)).wf.fresh id q)).symm
            unfold St.at
            rw [hs2, hrw])
          (fun id hW => by
            rw [hs1at id]
            by_cases hid : id ∈ (tr m).l
            · exact if_pos hid
            · rw [if_neg hid]
              rcases hWmem id hW with q | ⟨q1, q2⟩
              · exact absurd q hid
              · exact (hdead id q1 q2).symm)
          (fun id q1 q2 => hdead id q1 (by rw [hnx]; exact q2))
        have hfun : (fun id => if (memN id (tr m).wr || (decide ((tr m).s.next ≤ id) && decide (id < (tr (m + 1)).s.next))) = true then (tr (m + 1)).s.at id else K id) =
            (fun id => if (memN id (tr m).wr || (decide ((tr m).s.next ≤ id) && decide (id < (tr (m + 1)).s.next))) = true then s2.at id else K id) := by
          funext id
          by_cases hW : (memN id (tr m).wr || (decide ((tr m).s.next ≤ id) && decide (id < (tr (m + 1)).s.next))) = true
          · rw [if_pos hW, if_pos hW]
            have h1 : s2.sees id = true := by
              rw [St.sees_iff, hr.thr, hr.allow]
              rcases hWmem id hW with q | ⟨q1, q2⟩
              · exact .inr q
              · exact .inl q1
            have h2 : (tr (m + 1)).s.sees id = true := by
              rw [sees_eq ht ha]
              rcases hWmem id hW with q | ⟨q1, q2⟩
              · exact (hl id q).2
              · exact (St.sees_iff _ id).2 (.inl (Nat.le_trans (hraw m (by omega)).wf.thr q1))
            rw [at_seen h1, at_seen h2]
            exact raw_heap hh id
          · rw [if_neg hW, if_neg hW]
        rw [hfun]
        have st3 := lifted
        rw [← hnx] at st3
        exact st3
  · -- two that must keep their order
    intro i j hij hj hc
    have hi : i < ops.size := by omega
    have ran_of_w : ∀ m, m < ops.size → ∀ id, (memN id (tr m).wr || (decide ((tr m).s.next ≤ id) && decide (id < (tr (m + 1)).s.next))) = true → (tr m).ran = true := fun m hm id hW => by
      rcases rowCases m hm with ⟨_, hs, _, h3⟩ | ⟨h1, _⟩
      · rw [h3, hs] at hW
        simp only [memN, Bool.false_or, Bool.and_eq_true, decide_eq_true_eq] at hW
        omega
      · exact h1
    have ran_of_l : ∀ m, m < ops.size → ∀ id, memN id (tr m).l = true → (tr m).ran = true := fun m hm id hL => by
      rcases rowCases m hm with ⟨_, _, h2, _⟩ | ⟨h1, _⟩
      · rw [h2] at hL; cases hL
      · exact h1
    have lolt : ∀ m, m < ops.size → ∀ id, memN id (tr m).l = true → id < (tr m).s.next := fun m hm id hL => by
      rcases rowCases m hm with ⟨_, _, h2, _⟩ | ⟨_, s2, _, _, _, _, _, _, hl⟩
      · rw [h2] at hL; cases hL
      · exact (hl id ((memN_iff id _).1 hL)).1
    have nextle : ∀ a b, a ≤ b → b ≤ ops.size → (tr a).s.next ≤ (tr b).s.next := by
      intro a b hab hb
      induction b with
      | zero => have : a = 0 := by omega
                subst this; exact Nat.le_refl _
      | succ b ihb =>
        rcases Nat.lt_or_ge a (b + 1) with q | q
        · refine Nat.le_trans (ihb (by omega) (by omega)) ?_
          rcases rowCases b (by omega) with ⟨_, hs, _, _⟩ | ⟨_, s2, hr, _, _, hn, _⟩
          · rw [hs]; exact Nat.le_refl _
          · rw [hn]; exact hr.next
        · have : a = b + 1 := by omega
          subst this; exact Nat.le_refl _
    rcases hc with ⟨id, hW, hL⟩ | ⟨id, hL, hW⟩ | ⟨t, hd, hl⟩ | ⟨t, hd, hl⟩
    · rcases hpairs i j hij hj (ran_of_w i hi id hW) (ran_of_l j hj id hL) with q | q
      · exact hmask j hj i q
      · obtain ⟨c1, c2, c3⟩ := clash_ok q
        exfalso
        simp only [Bool.or_eq_true, Bool.and_eq_true, decide_eq_true_eq] at hW
        rcases hW with hW | hW
        · exact c1 id ((memN_iff id _).1 hW) ((memN_iff id _).1 hL)
        · exact c2 id ((memN_iff id _).1 hL) hW
    · rcases hpairs i j hij hj (ran_of_l i hi id hL) (ran_of_w j hj id hW) with q | q
      · exact hmask j hj i q
      · obtain ⟨c1, c2, c3⟩ := clash_ok q
        exfalso
        simp only [Bool.or_eq_true, Bool.and_eq_true, decide_eq_true_eq] at hW
        rcases hW with hW | hW
        · exact c3 id ((memN_iff id _).1 hW) ((memN_iff id _).1 hL)
        · have h1 := lolt i hi id hL
          have h2 := nextle i j (by omega) (by omega)
          omega
    · have hoi : ops[i]? = some ops[i] := Array.getElem?_eq_getElem hi
      have hoj : ops[j]? = some ops[j] := Array.getElem?_eq_getElem hj
      rw [hoi, Option.bind_some] at hd
      rw [hoj] at hl
      simp only [Option.map_some, Option.getD_some, Option.bind_some] at hl
      rcases hpT i j _ _ hij hoi hoj with q | q
      · exact hmask j hj i q
      · obtain ⟨q1, q2, q3⟩ := Oper.apart_spec q
        exfalso
        rcases hl with hl | hl
        · exact q1 t hd hl
        · exact q2 t hd hl
    · have hoi : ops[i]? = some ops[i] := Array.getElem?_eq_getElem hi
      have hoj : ops[j]? = some ops[j] := Array.getElem?_eq_getElem hj
      rw [hoj, Option.bind_some] at hd
      rw [hoi] at hl
      simp only [Option.map_some, Option.getD_some] at hl
      rcases hpT i j _ _ hij hoi hoj with q | q
      · exact hmask j hj i q
      · obtain ⟨q1, q2, q3⟩ := Oper.apart_spec q
        exact absurd hl (q3 t hd)
  · -- the end
    intro γ' a' w' st hds hn hv
    have hst0 : Step (tr 0).s.next (tr ops.size).s.next γ (tr 0).s.at w γ (tr 0).s.at { w with drawn := w.drawn + 1 } :=
      ⟨Gam.le_refl _, fun id a b => absurd a b, Nat.le_refl _, fun _ _ _ => rfl, fun _ h => .inl h, hS.drew _, rfl, rfl, rfl, fun _ _ _ => rfl⟩
    obtain ⟨f1, f2, f3⟩ := hframe ops.size (Nat.le_refl _)
    refine hQ γ' a' w' (hst0.join st) ⟨⟨by rw [f2]; exact hn, rfl, by rw [f2, f3]; exact hd0, hv⟩, ?_⟩
    rw [f1, hds]
    exact hD.mono st.le
end
end Go.Ev
