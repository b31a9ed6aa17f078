/- An evaluator of closed Go code, part 17: operations, calls, loops. -/
import Derived.Test.YtbghajfpjjfjcaaEvQ
set_option linter.unusedSimpArgs false
set_option linter.unusedVariables false
namespace Go.Ev
open Go Go.RowKit
variable [Rho]

omit [Rho] in
theorem FF_fn (roC : Option Nat) (f : FuncId) : (FF roC).fn f := trivial
omit [Rho] in
theorem FF_depth {roC : Option Nat} (h : (FF roC).depth.isSome = true) {q : Prop} : q := by simp [FF, Fence.wide] at h
omit [Rho] in
theorem callsIn_FF {P : Program} {f : FuncId} {args : Array Value} {w : World} {R : Ending → World → Prop} (h : CallsIn Fence.wide 0 P f args w R) (roC : Option Nat) : CallsIn (FF roC) 0 P f args w R := by
  cases roC with
  | none => exact h
  | some l => exact h

theorem HOk.op {P : Program} {o : Oper} {T : Tm} {s s' : St} {v : Value} (h : HOk P o T s s' v) (hd : ∀ c, o.op ≠ .defer c) : OpOk P o T s v s' := by
  intro γ a w roC hT hS hf K Q hK
  obtain ⟨γ', w', v', st, hv, hrun⟩ := h γ T.n a w hT hS hf
  refine ⟨fun f _ => FF_fn roC f, ?_⟩
  rw [Oper.semAt_eq _ _ _ hd]
  rcases hrun with hrun | ⟨h1, h2, hrun⟩
  · rw [hrun]; exact hK γ' w' v' st hv
  · rw [hrun]; subst h1 h2; exact hK γ' w' _ st hv

theorem pure_HOk {P : Program} {e : Env} (he : Env.Ok P e) {o : Oper} {T : Tm} {s : St} {v : Value} (h : evalPure P e T o = some v) : HOk P o T s s v := by
  intro γ n a w hT hS _
  obtain ⟨v', h1, h2⟩ := evalPure_ok he hT h w
  exact ⟨γ, w, v', Step.refl hS, h1, .inl h2⟩

theorem plainOp_ok {β : Type} {P : Program} {e : Env} (he : Env.Ok P e) {o : Oper} {fr : Fr} {s : St} {k : Value → St → Option β} {r : β} (h : plainOpT P e o fr s k = some r) (hd : ∀ c, o.op ≠ .defer c) (hw : s.Wf) :
    ∃ v s', k v s' = some r ∧ Raw s s' ∧ OpOk P o fr.T s v s' := by
  unfold plainOpT at h
  have heap : heapS e fr.T s o.op k = some r → ∃ v s', k v s' = some r ∧ Raw s s' ∧ OpOk P o fr.T s v s' := fun h => by
    obtain ⟨v, s', h1, h2, h3⟩ := heapS_ok (P := P) he h hw
    exact ⟨v, s', h1, h2, h3.op hd⟩
  cases hh : isHeapOp o.op with
  | true => rw [hh, cond_true] at h; exact heap h
  | false =>
    rw [hh, cond_false] at h
    split at h
    · rename_i v hv
      exact ⟨v, s, h, Raw.refl hw, (pure_HOk he hv).op hd⟩
    · exact heap h

theorem callFunc_ok {P : Program} {e : Env} (he : Env.Ok P e) {g : FuncId} {fn : Func} (h : e.fnOf g = some fn) {c : Code} (hb : fn.body = some c) (args : Array Value) (w : World) : (callFunc g args).run P w = .ok (.enter g args) w := by
  obtain ⟨h1, h2⟩ := he.fn g fn h
  have h3 : ¬ fn.name = "runtime.NumGoroutine" := by simpa using h2
  simp [callFunc, h1, h3, hb]

theorem LRel.toA {γ : Gam} {l l' : List Value} (h : LRel γ l l') {a : Array Value} (e : a.toList = l') : LRel γ l a.toList := by rw [e]; exact h

theorem func_inv {γ : Gam} {g : FuncId} {fi ca : Array Value} {v' : Value} (h : VRel γ (.func (.func g) fi ca) v') : ∃ fi' ca', v' = .func (.func g) fi' ca' ∧ LRel γ fi.toList fi'.toList ∧ LRel γ ca.toList ca'.toList := by
  cases h with
  | func fn hf f f' c c' hs h gs g => exact ⟨f', c', rfl, ARel.toList ⟨hs, h⟩, ARel.toList ⟨gs, g⟩⟩
theorem yield_inv {γ : Gam} {l : Nat} {fi ca : Array Value} {v' : Value} (h : VRel γ (.func (.yield l) fi ca) v') : ∃ L O C, v' = .func (.yield L) #[] #[] ∧ γ l = some (L, O, C) ∧ fi = #[] ∧ ca = #[] := by
  cases h with
  | func fn hf f f' c c' hs h gs g => exact absurd rfl (hf l)
  | yield h => exact ⟨_, _, _, rfl, h, rfl, rfl⟩

/-! ### what is asked of each task -/
structure Row where
  fr : Fr
  s : St
  l : List Nat
  wr : List Nat
  ran : Bool

def PutOk (fr : Fr) (d : Option Tmp) (v : Value) (fr' : Fr) : Prop :=
  fr'.D = fr.D ∧ fr'.T.n = fr.T.n ∧
      (∀ t, (∀ i, d = some i → t ≠ i) → t < 2 ^ fr.T.d → (∀ i, d = some i → i < 2 ^ fr.T.d) → tget fr'.T t = tget fr.T t) ∧
      (∀ i, d = some i → i < 2 ^ fr.T.d → tget fr'.T i = some v) ∧ fr'.T.d = fr.T.d ∧ (∀ i, d = some i → i < fr.T.n)

def RowOk (P : Program) (all : Array Oper) (row next : Row) (m : Nat) : Prop :=
  ∃ o v, all[m]? = some o ∧ PutOk row.fr o.dst v next.fr ∧
    ((row.ran = false ∧ wantedA all.toList row.fr.T o = some false ∧ v = undef ∧ next.s = row.s ∧ row.l = [] ∧ row.wr = []) ∨
     (row.ran = true ∧ wantedA all.toList row.fr.T o = some true ∧ ∃ (T' : Tm) (s2 : St), Raw ⟨row.s.heap, row.s.next, [], row.s.next, row.l⟩ s2 ∧ OpOk P o T' ⟨row.s.heap, row.s.next, [], row.s.next, row.l⟩ v s2 ∧
        T'.n = row.fr.T.n ∧ T'.d = row.fr.T.d ∧ (row.fr.T.n ≤ 2 ^ row.fr.T.d → ∀ t u, tget T' t = some u → Operand.tmp t ∈ o.op.operands.toList ∧ tget row.fr.T t = some u) ∧
        row.wr = s2.wr ∧ next.s.heap = s2.heap ∧ next.s.next = s2.next ∧ next.s.thr = row.s.thr ∧ next.s.allow = row.s.allow ∧
        (∀ id, id ∈ next.s.wr ↔ id ∈ row.s.wr ∨ (id ∈ s2.wr ∧ id < row.s.thr)) ∧ (∀ id ∈ row.l, id < row.s.next ∧ row.s.sees id = true)))

def recOf (tr : Nat → Row) (m : Nat) : Rec := ⟨m, (tr m).l, (tr m).wr, (tr m).s.next, (tr (m + 1)).s.next⟩
def pairOk (ms : List Nat) (x y : Rec) : Prop := (ms.getD y.i 0).testBit x.i = true ∨ clash x y = false

def TOk {β : Type} (P : Program) : Task β → β → Prop
  | .code c ro fr s k, r => s.Wf → ∃ ex fr' s', k ex fr' s' = some r ∧ Raw s s' ∧ CodeOk P c ro fr s ex fr' s'
  | .ops all rest ro fr s k, r => s.Wf → ∃ fr' s', k fr' s' = some r ∧ Raw s s' ∧ OpsOk P all rest ro fr s fr' s'
  | .draw all ms i rest _ acc fr s k, r => s.Wf → all.toList.drop i = rest → i ≤ all.size → ∃ tr : Nat → Row, (tr i).fr = fr ∧ (tr i).s = s ∧ k (tr all.size).fr (tr all.size).s = some r ∧
      (∀ m, i ≤ m → m < all.size → RowOk P all (tr m) (tr (m + 1)) m) ∧
      (∀ m, i ≤ m → m < all.size → (tr m).ran = true → ∀ x ∈ acc, pairOk ms x (recOf tr m)) ∧
      (∀ a b, i ≤ a → a < b → b < all.size → (tr a).ran = true → (tr b).ran = true → pairOk ms (recOf tr a) (recOf tr b))
  | .op o _ fr s k, r => s.Wf → ∃ v s', k v s' = some r ∧ Raw s s' ∧ OpOk P o fr.T s v s'
  | .call f args s k, r => s.Wf → ∃ v s', k v s' = some r ∧ Raw s s' ∧ CallOk P f args s v s'
  | .yield l args s k, r => s.Wf → ∃ v s', k v s' = some r ∧ Raw s s' ∧ YieldOk P l args s v s'

section
variable {β : Type} {P : Program} {e : Env} (he : Env.Ok P e) {ih : Task β → Option β} (hih : ∀ t r, ih t = some r → TOk P t r)
include he hih

theorem opT_ok {o : Oper} {fr : Fr} {s : St} {k : Value → St → Option β} {r : β} (hcall : ∀ f args s k r, ih (.call f args s k) = some r → ∃ fn c, e.fnOf f = some fn ∧ fn.body = some c) (h : opT P e ih o fr s k o.op = some r) (hw : s.Wf) :
    ∃ v s', k v s' = some r ∧ Raw s s' ∧ OpOk P o fr.T s v s' := by
  unfold opT at h
  split at h
  · -- a call of a function value
    rename_i f args tys hop
    unfold callVT at h
    split at h
    · rename_i g first captured vs hf hvs
      obtain ⟨v, s', hk, hraw, hok⟩ := hih _ _ h hw
      obtain ⟨fn, c, hfn, hbody⟩ := hcall _ _ _ _ _ h
      refine ⟨v, s', hk, hraw, fun γ a w roC hT hS hfr K Q hK => ⟨fun f _ => FF_fn roC f, ?_⟩⟩
      obtain ⟨fi', ca', hf', r1, r2⟩ := func_inv (aev_rel hT hf)
      have r3 := aevs_rel hT hvs
      rw [Oper.semAt_eq _ _ _ (by intro c; rw [hop]; exact fun x => nomatch x)]
      have hrun : (execOp a.eval o).run P w = .ok (.enter g ((fi' ++ args.map a.eval) ++ ca')) w := by
        simp [execOp, hop, resolve, hf', Deferred.ofValue, invoke, callFunc_ok he hfn hbody]
      rw [hrun]
      refine ⟨fun h => FF_depth h, callsIn_FF (hok γ _ w ?_ hS hfr _ (fun γ' w' v' st hv => ?_)) roC⟩
      · refine LRel.toA (r1.append (r3.append r2)) ?_
        simp
      · exact hK γ' w' v' st hv
    · rename_i l fi ca vs hf hvs
      obtain ⟨v, s', hk, hraw, hok⟩ := hih _ _ h hw
      refine ⟨v, s', hk, hraw, fun γ a w roC hT hS hfr K Q hK => ⟨fun f _ => FF_fn roC f, ?_⟩⟩
      obtain ⟨L, O, C, hf', hγ, _, _⟩ := yield_inv (aev_rel hT hf)
      have r3 := aevs_rel hT hvs
      rw [Oper.semAt_eq _ _ _ (by intro c; rw [hop]; exact fun x => nomatch x)]
      obtain ⟨g, tmps, assign, body, h1, h2⟩ := hok γ (args.map a.eval) w L O C hγ (LRel.toA r3 (by simp)) hS hfr
        (fun | .returned v, w'' => K (a.put o.dst v) w'' | .panicked chain, w'' => Q (.panic chain) a w'' | .outgrown, _ => LetsOut Q) (fun γ' w' v' st hv => hK γ' w' v' st hv) roC
      have hrun : (execOp a.eval o).run P w = .ok (.round L g tmps assign body) w := by
        simp [execOp, hop, resolve, hf', Deferred.ofValue, invoke, h1]
      rw [hrun]
      exact ⟨fun h => FF_depth h, h2⟩
    · cases h
  · -- a call through an interface
    rename_i rcv name args tys hop
    unfold callIT at h
    split at h
    · rename_i t v0 vs hf hvs
      split at h
      · rename_i g hg
        obtain ⟨v, s', hk, hraw, hok⟩ := hih _ _ h hw
        obtain ⟨fn, c, hfn, hbody⟩ := hcall _ _ _ _ _ h
        refine ⟨v, s', hk, hraw, fun γ a w roC hT hS hfr K Q hK => ⟨fun f _ => FF_fn roC f, ?_⟩⟩
        obtain ⟨u', hf', r1⟩ := (aev_rel hT hf).iface_inv
        have r3 := aevs_rel hT hvs
        rw [Oper.semAt_eq _ _ _ (by intro c; rw [hop]; exact fun x => nomatch x)]
        have hA : #[Value.iface t u'] ++ args.map a.eval = (Value.iface t u' :: (args.map a.eval).toList).toArray := by
          apply Array.ext'
          simp
        have hex : ((Value.iface t u' :: (args.map a.eval).toList).toArray).extract 1 (Value.iface t u' :: (args.map a.eval).toList).toArray.size = args.map a.eval := by
          apply Array.ext'
          rw [Array.toList_extract]
          simp [List.extract]
          exact List.take_of_length_le (by simp)
        have h0 : ((Value.iface t u' :: (args.map a.eval).toList).toArray)[0]? = some (.iface t u') := rfl
        have hrun : (execOp a.eval o).run P w = .ok (.enter g (#[u'] ++ args.map a.eval)) w := by
          simp only [execOp, hop, resolve, hf', Sem.run_bind, Sem.run_pure, Result.andThen_ok, invoke, hA, h0, callMethod, hex, run_program, he.meth t name g hg, callFunc_ok he hfn hbody]
        rw [hrun]
        refine ⟨fun h => FF_depth h, callsIn_FF (hok γ _ w ?_ hS hfr _ (fun γ' w' v' st hv => ?_)) roC⟩
        · refine LRel.toA (LRel.cons r1 r3) ?_
          simp
        · exact hK γ' w' v' st hv
      · cases h
    · cases h
  · cases h
  · rename_i hn1 hn2 hn3
    exact plainOp_ok he h (fun c hc => hn3 c hc) hw

omit he in
theorem opsT_ok {all : Array Oper} {ro : Option Nat} {fr : Fr} {s : St} {k : Fr → St → Option β} {rest : List Oper} {r : β} (h : opsT ih all ro fr s k rest = some r) (hw : s.Wf) :
    ∃ fr' s', k fr' s' = some r ∧ Raw s s' ∧ OpsOk P all rest ro fr s fr' s' := by
  have idx : ∀ {i : Nat} {o : Oper} {os : List Oper}, all.toList.drop i = o :: os → all[i]? = some o ∧ all.toList.drop (i + 1) = os ∧ (List.range all.size).drop i = i :: (List.range all.size).drop (i + 1) := by
    intro i o os hi
    have hlt : i < all.toList.length := by
      rcases Nat.lt_or_ge i all.toList.length with q | q
      · exact q
      · rw [List.drop_eq_nil_of_le q] at hi; cases hi
    rw [List.drop_eq_getElem_cons hlt] at hi
    injection hi with h1 h2
    refine ⟨?_, h2, ?_⟩
    · have : all.toList[i]? = some o := by rw [List.getElem?_eq_getElem hlt, h1]
      simpa using this
    · rw [List.drop_eq_getElem_cons (by simpa using hlt)]
      simp
  unfold opsT at h
  split at h
  · refine ⟨fr, s, h, Raw.refl hw, fun i hi γ a w roC hro hfr hS _ Q hQ => ?_⟩
    have : (List.range all.size).drop i = [] := by
      refine List.drop_eq_nil_of_le ?_
      have := List.drop_eq_nil_iff.1 hi
      simpa using this
    rw [this]
    exact hQ γ a w (Step.refl hS) hfr
  · rename_i o os
    split at h
    · rename_i hwant
      obtain ⟨v, s1, hk, hraw1, hok⟩ := hih _ _ h hw
      obtain ⟨fr1, hk2, hput⟩ := putT_rel hk
      obtain ⟨fr', s', hk3, hraw2, hops⟩ := hih _ _ hk2 hraw1.wf
      refine ⟨fr', s', hk3, hraw1.trans hraw2, fun i hi γ a w roC hro hfr hS hfresh Q hQ => ?_⟩
      obtain ⟨h1, h2, h3⟩ := idx hi
      rw [h3]
      simp only [wpOpsIn, h1, wanted_ok hfr.1 hwant, if_true]
      refine hok γ a w roC hfr.1 hS (hfresh.left hraw2.next) _ _ (fun γ1 w1 v1 st1 hv1 => ?_)
      refine hops (i + 1) h2 γ1 _ w1 roC (hro.mono st1.le) (hput γ1 a v1 (hfr.mono st1.le) hv1) st1.sat (hfresh.right hraw1.next st1) Q (fun γ2 a2 w2 st2 hf2 => ?_)
      exact hQ γ2 a2 w2 (st1.trans hraw1.next hraw2.next st2) hf2
    · rename_i hwant
      obtain ⟨fr1, hk2, hput⟩ := putT_rel h
      obtain ⟨fr', s', hk3, hraw2, hops⟩ := hih _ _ hk2 hw
      refine ⟨fr', s', hk3, hraw2, fun i hi γ a w roC hro hfr hS hfresh Q hQ => ?_⟩
      obtain ⟨h1, h2, h3⟩ := idx hi
      rw [h3]
      simp only [wpOpsIn, h1, wanted_ok hfr.1 hwant, Bool.false_eq_true, if_false]
      refine ⟨fun f _ => FF_fn roC f, ?_⟩
      exact hops (i + 1) h2 γ _ w roC hro (hput γ a undef hfr (.tuple _ _ rfl (fun i h1 _ => by simp at h1))) hS hfresh Q hQ
    · cases h
end
end Go.Ev
