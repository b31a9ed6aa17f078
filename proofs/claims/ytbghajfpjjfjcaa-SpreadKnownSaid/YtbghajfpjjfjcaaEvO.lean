/- An evaluator of closed Go code, part 14: activations, results, marks. -/
import Derived.Test.YtbghajfpjjfjcaaEvM
set_option linter.unusedSimpArgs false
set_option linter.unusedVariables false
namespace Go.Ev
open Go Go.RowKit
variable [Rho]

def FF (roC : Option Nat) : Fence := { Fence.wide with round := roC }

def RoRel (γ : Gam) : Option Nat → Option Nat → Prop
  | none, none => True
  | some l, some L => ∃ O C, γ l = some (L, O, C)
  | _, _ => False

def DRel (γ : Gam) : List Nat → List Deferred → Prop
  | [], [] => True
  | m :: D, d :: ds => (∃ B O C, γ m = some (B, O, C) ∧ d = { target := .collected B, args := #[] }) ∧ DRel γ D ds
  | _, _ => False

def FrRel (γ : Gam) (fr : Fr) (a : Act) : Prop := TRel γ fr.T fr.T.n a.tmps ∧ DRel γ fr.D a.defers
def Fresh (γ : Gam) (s s' : St) : Prop := ∀ id, s.next ≤ id → id < s'.next → γ id = none

omit [Rho] in
theorem RoRel.mono {γ γ' : Gam} (hg : γ.le γ') {ro roC : Option Nat} (h : RoRel γ ro roC) : RoRel γ' ro roC := by
  cases ro <;> cases roC <;> first | exact h | (obtain ⟨O, C, h⟩ := h; exact ⟨O, C, hg _ _ h⟩)
omit [Rho] in
theorem DRel.mono {γ γ' : Gam} (hg : γ.le γ') : ∀ {D : List Nat} {ds : List Deferred}, DRel γ D ds → DRel γ' D ds
  | [], [], _ => trivial
  | _ :: _, _ :: _, ⟨⟨B, O, C, h1, h2⟩, h⟩ => ⟨⟨B, O, C, hg _ _ h1, h2⟩, DRel.mono hg h⟩
  | [], _ :: _, h => h.elim
  | _ :: _, [], h => h.elim
theorem FrRel.mono {γ γ' : Gam} (hg : γ.le γ') {fr : Fr} {a : Act} (h : FrRel γ fr a) : FrRel γ' fr a := ⟨h.1.mono hg, h.2.mono hg⟩

omit [Rho] in
theorem Fresh.left {γ : Gam} {s s1 s' : St} (h : Fresh γ s s') (h1 : s1.next ≤ s'.next) : Fresh γ s s1 := fun id a b => h id a (by omega)
theorem Fresh.right {γ γ' : Gam} {s s1 s' : St} {hh hh' : Hp} {w w' : World} (h : Fresh γ s s') (h0 : s.next ≤ s1.next) (st : Step s.next s1.next γ hh w γ' hh' w') : Fresh γ' s1 s' := fun id a b => by
  by_cases e : γ' id = none
  · exact e
  · have := st.dom id (h id (by omega) b) e
    omega

omit [Rho] in
theorem tget_lt {T : Tm} {i : Nat} {v : Value} (h : tget T i = some v) : i < T.n := by
  obtain ⟨t, n, d⟩ := T
  simp only [tget] at h
  cases hb : Nat.blt i n with
  | true => exact Nat.le_of_ble_eq_true hb
  | false => rw [hb] at h; cases h

omit [Rho] in
/-- A value is put into a slot. -/
theorem putT_ok {β : Type} {fr : Fr} {d : Option Tmp} {v : Value} {k : Fr → Option β} {r : β} (h : putT fr d v k = some r) :
    ∃ fr', k fr' = some r ∧ fr'.D = fr.D ∧ fr'.T.n = fr.T.n ∧
      (∀ t, (∀ i, d = some i → t ≠ i) → t < 2 ^ fr.T.d → (∀ i, d = some i → i < 2 ^ fr.T.d) → tget fr'.T t = tget fr.T t) ∧
      (∀ i, d = some i → i < 2 ^ fr.T.d → tget fr'.T i = some v) ∧ fr'.T.d = fr.T.d ∧ (∀ i, d = some i → i < fr.T.n) := by
  obtain ⟨⟨t, n, dd⟩, D⟩ := fr
  unfold putT at h
  split at h
  · exact ⟨_, h, rfl, rfl, fun _ _ _ _ => rfl, (fun i e => (nomatch e)), rfl, (fun i e => (nomatch e))⟩
  · rename_i i
    simp only at h
    cases hb : Nat.blt i n with
    | false => rw [hb] at h; cases h
    | true =>
      rw [hb, cond_true, forceV_eq, PT.setK_eq] at h
      have hi : i < n := Nat.le_of_ble_eq_true hb
      refine ⟨_, h, rfl, rfl, fun j hj hlt hil => ?_, fun j e hlt => ?_, rfl, fun j e => by cases e; exact hi⟩
      · simp only [tget]
        cases hc : Nat.blt j n with
        | false => rfl
        | true =>
          simp only [cond_true]
          rw [PT.get_set dd t i j v (hil i rfl) hlt, if_neg (hj i rfl)]
      · cases e
        simp only [tget, hb, cond_true]
        rw [PT.get_set dd t i i v hlt hlt, if_pos rfl]

theorem put_rel {γ : Gam} {fr fr' : Fr} {d : Option Tmp} {v v' : Value} {a : Act} (hf : FrRel γ fr a) (hv : VRel γ v v') (hD : fr'.D = fr.D) (hn : fr'.T.n = fr.T.n)
    (ho : ∀ t, (∀ i, d = some i → t ≠ i) → t < 2 ^ fr.T.d → (∀ i, d = some i → i < 2 ^ fr.T.d) → tget fr'.T t = tget fr.T t)
    (hs : ∀ i, d = some i → i < 2 ^ fr.T.d → tget fr'.T i = some v) (hd : fr'.T.d = fr.T.d) (hlt : ∀ i, d = some i → i < fr.T.n) : FrRel γ fr' (a.put d v') := by
  obtain ⟨⟨h1, h2, h3, h4⟩, h5⟩ := hf
  refine ⟨⟨?_, rfl, by rw [hn, hd]; exact h3, fun t u hu => ?_⟩, by rw [hD]; cases d <;> exact h5⟩
  · rw [hn]
    cases d with
    | none => exact h1
    | some i => simp [Act.put, h1]
  · have hil : ∀ i, d = some i → i < 2 ^ fr.T.d := fun i e => Nat.lt_of_lt_of_le (hlt i e) h3
    have ht : t < fr'.T.n := tget_lt hu
    rw [hn] at ht
    have ht2 : t < 2 ^ fr.T.d := Nat.lt_of_lt_of_le ht h3
    cases d with
    | none =>
      rw [ho t (fun i e => by cases e) ht2 hil] at hu
      exact h4 t u hu
    | some i =>
      by_cases hti : t = i
      · subst hti
        rw [hs t rfl ht2] at hu
        injection hu with hu
        subst hu
        have : t < a.tmps.size := by rw [h1]; exact ht
        simpa [Act.put, Array.getD_eq_getD_getElem?, this] using hv
      · rw [ho t (fun j e => by cases e; exact hti) ht2 hil] at hu
        have := h4 t u hu
        simpa [Act.put, Array.getD_eq_getD_getElem?, Array.getElem?_setIfInBounds, Ne.symm hti] using this

theorem putT_rel {β : Type} {fr : Fr} {d : Option Tmp} {v : Value} {k : Fr → Option β} {r : β} (h : putT fr d v k = some r) :
    ∃ fr', k fr' = some r ∧ ∀ γ a v', FrRel γ fr a → VRel γ v v' → FrRel γ fr' (a.put d v') := by
  obtain ⟨fr', hk, hD, hn, ho, hs, hd, hlt⟩ := putT_ok h
  exact ⟨fr', hk, fun γ a v' hf hv => put_rel hf hv hD hn ho hs hd hlt⟩

/-- Is an operation carried out? -/
theorem wanted_ok {γ : Gam} {T : Tm} {n : Nat} {ops : Array Oper} {o : Oper} {a : Act} (hT : TRel γ T n a.tmps) {b : Bool} (h : wantedA ops.toList T o = some b) : Region.wanted o (yielded ops a.tmps) = b := by
  unfold wantedA at h
  unfold Region.wanted
  split at h
  · rename_i hg
    injection h with h
    rw [hg]
    exact h
  · rename_i j want hg
    rw [hg]
    split at h
    case h_2 => cases h
    rename_i g hj
    split at h
    case h_2 => cases h
    rename_i d hd
    have hj' : ops[j]? = some g := by simpa using hj
    split at h
    · rename_i c hc
      injection h with h
      have hr := hT.2.2.2 d _ hc
      have hlt : d < a.tmps.size := by rw [hT.1, ← hT.2.1]; exact tget_lt hc
      have hget : a.tmps[d]? = some (.bool c) := by
        have e : a.tmps.getD d undef = .bool c := hr.bool_inv
        rw [Array.getD_eq_getD_getElem?] at e
        simp only [Array.getElem?_eq_getElem hlt, Option.getD_some] at e ⊢
        rw [e]
      simp only [yielded, hj', Option.bind_some, hd, hget]
      subst h
      cases c <;> cases want <;> rfl
    · rename_i vs hc
      injection h with h
      have hr := hT.2.2.2 d _ hc
      have hlt : d < a.tmps.size := by rw [hT.1, ← hT.2.1]; exact tget_lt hc
      obtain ⟨vs', hv', _⟩ := hr.tuple_inv
      have hget : a.tmps[d]? = some (.tuple vs') := by
        rw [Array.getD_eq_getD_getElem?] at hv'
        simp only [Array.getElem?_eq_getElem hlt, Option.getD_some] at hv' ⊢
        rw [hv']
      simp only [yielded, hj', Option.bind_some, hd, hget]
      exact h
    · cases h

/-- What a function hands back. -/
def resOne (tmps : Array Value) (rv : ResultVar) : Sem Value := match rv with
  | .tmp t => pure (tmps.getD t undef)
  | .cell a t => do loadVar t (← asAddr (tmps.getD a undef))

theorem resA_ok {P : Program} {e : Env} (he : Env.Ok P e) {T : Tm} {s : St} {rv : ResultVar} {v : Value} (h : resA e T s rv = some v) {γ : Gam} {n : Nat} {tmps : Array Value} {w : World} (hT : TRel γ T n tmps) (hS : Sat γ s.at w) :
    ∃ v', VRel γ v v' ∧ (resOne tmps rv).run P w = .ok v' w := by
  cases rv with
  | tmp t => exact ⟨_, hT.2.2.2 t v h, rfl⟩
  | cell a t =>
    simp only [resA] at h
    split at h
    case h_2 => cases h
    rename_i b o i hx hi
    split at h
    case h_2 => cases h
    rename_i c t' room ro hb
    cases hle : Nat.ble (o + i.size) c.length with
    | false => rw [hle] at h; cases h
    | true =>
      rw [hle, cond_true] at h
      have hle' := Nat.le_of_ble_eq_true hle
      obtain ⟨B, O, C, hg, hx'⟩ := (hT.2.2.2 a _ hx).ptr_inv
      have hsb := hS.blk b
      rw [hb] at hsb
      obtain ⟨B', O', C', arr, hg', ha, hsz, hc, _⟩ := hsb.cells_inv
      rw [hg] at hg'; cases hg'
      obtain ⟨hdesc, j, hj, hjs, _, _⟩ := he.ty t i hi
      unfold partL at h
      cases hag : isAggD i.desc with
      | true =>
        simp only [hag, cond_true] at h
        injection h with h
        subst h
        obtain ⟨cs, hl, hrel, hrange⟩ := row_part ha hsz hc hle'
        have hrow : i.desc.isRow = true := by cases hd : i.desc <;> simp [hd, isAggD] at hag <;> rfl
        exact ⟨_, VRel.aggOf hrel, by simp [resOne, hx', asAddr, run_loadVar_mid w B (O + o) t cs i.desc hrange hdesc hrow (by simp [hj, hjs, hl])]⟩
      | false =>
        simp only [hag, cond_false] at h
        obtain ⟨hlt, rfl⟩ := List.getElem?_eq_some_iff.1 h
        obtain ⟨cs, hl, hrel, hrange⟩ := row_part ha hsz hc (o := o) (m := 1) (by omega)
        obtain ⟨v', hv', hvr⟩ := hrel.get (i := 0) (v := c[o]) (by simp [hlt])
        have hcell := hrange 0 v' hv'
        simp only [Nat.add_zero] at hcell
        exact ⟨v', hvr, by simp [resOne, hx', asAddr, loadVar, ok_isAgg he hi, hag, hcell]⟩

theorem resAs_ok {P : Program} {e : Env} (he : Env.Ok P e) {T : Tm} {s : St} {γ : Gam} {n : Nat} {tmps : Array Value} {w : World} (hT : TRel γ T n tmps) (hS : Sat γ s.at w) :
    ∀ (rs : List ResultVar) (vs : List Value), resAs e T s rs = some vs →
      ∃ vs', LRel γ vs vs' ∧ (rs.mapM (resOne tmps)).run P w = .ok vs' w
  | [], vs, h => by simp [resAs] at h; subst h; exact ⟨[], .nil γ, rfl⟩
  | r :: rs, vs, h => by
    simp only [resAs] at h
    split at h
    case h_2 => cases h
    rename_i v hv
    split at h
    case h_2 => cases h
    rename_i us hus
    injection h with h
    subst h
    obtain ⟨v', h1, h2⟩ := resA_ok he hv hT hS
    obtain ⟨vs', h3, h4⟩ := resAs_ok he hT hS rs us hus
    refine ⟨v' :: vs', .cons h1 h3, ?_⟩
    rw [List.mapM_cons]
    simp only [Sem.run_bind, h2, Result.andThen_ok, h4, Sem.run_pure]

theorem results_ok {P : Program} {e : Env} (he : Env.Ok P e) {fn : Func} {T : Tm} {s : St} {vs : List Value} (h : resAs e T s fn.results.toList = some vs) {γ : Gam} {n : Nat} {tmps : Array Value} {w : World} (hT : TRel γ T n tmps) (hS : Sat γ s.at w) :
    ∃ v', (results fn tmps).run P w = .ok v' w ∧ VRel γ (resV vs) v' := by
  obtain ⟨vs', h1, h2⟩ := resAs_ok (P := P) he hT hS _ vs h
  have hrun : (results fn tmps).run P w = .ok (if h : vs'.toArray.size = 1 then vs'.toArray[0] else .tuple vs'.toArray) w := by
    have e1 : results fn tmps = (do let vs ← fn.results.mapM (resOne tmps); pure (if h : vs.size = 1 then vs[0] else .tuple vs)) := rfl
    rw [e1, Array.mapM_eq_mapM_toList]
    simp only [Sem.run_bind, Sem.run_map, h2, Result.andThen_ok, Sem.run_pure]
  refine ⟨_, hrun, ?_⟩
  unfold resV
  split
  · rename_i v
    have hl := h1.1
    match vs', h1, hl with
    | [v'], h1, _ => simpa using h1.2 0 (by simp) (by simp)
  · rename_i hne
    have hne' : ¬ vs'.toArray.size = 1 := by
      intro e
      have hl := h1.1
      have : vs.length = 1 := by rw [hl]; simpa using e
      match vs, this with
      | [v], _ => exact hne v rfl
    rw [dif_neg hne']
    exact VRel.tupleOf h1
end Go.Ev
