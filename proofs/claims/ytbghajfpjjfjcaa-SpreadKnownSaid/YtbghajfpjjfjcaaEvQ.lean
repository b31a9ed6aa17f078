/- An evaluator of closed Go code, part 16: what soundness says of each task; operations. -/
import Derived.Test.YtbghajfpjjfjcaaEvP
set_option linter.unusedSimpArgs false
set_option linter.unusedVariables false
namespace Go.Ev
open Go Go.RowKit
variable [Rho]

/-- A step that was made where only some names are seen is a step of the whole. -/
theorem Step.lift {lo hi : Nat} {γ γ' : Gam} {hr hr' K : Hp} {w w' : World} (st : Step lo hi γ hr w γ' hr' w') (hK : Sat γ K w) (W : Nat → Bool)
    (ha : ∀ id, hr id = K id ∨ hr id = .dead) (hb : ∀ id, W id = false → hr' id = hr id) (hc : ∀ id, W id = true → hr id = K id) (hd : ∀ id, lo ≤ id → id < hi → K id = .dead) :
    Step lo hi γ K w γ' (fun id => if W id = true then hr' id else K id) w' := by
  have ownK : ∀ B, Own γ hr B → Own γ K B := fun B ⟨j, O, C, h1, h2⟩ => ⟨j, O, C, by (rcases ha j with e | e); (rw [← e]; exact h1); (rw [e] at h1; cases h1), h2⟩
  have seen : ∀ id, (hr id).alive = true → hr id = K id := fun id h => by
    rcases ha id with e | e
    · exact e
    · rw [e] at h; cases h
  have back : ∀ id B O C, (K id).alive = true → γ' id = some (B, O, C) → γ id = some (B, O, C) := fun id B O C h e => by
    cases h0 : γ id with
    | none =>
      obtain ⟨q1, q2⟩ := st.dom id h0 (by rw [e]; exact fun q => nomatch q)
      rw [hd id q1 q2] at h; cases h
    | some x => rw [← e]; exact (st.le id x h0).symm
  refine Step0.up hK.frz ⟨st.le, st.dom, st.size, fun B hB ho => st.frame B hB (fun h => ho (ownK B h)), fun B ho => ?_, ⟨fun id => ?_, fun i j B O C O' C' ai aj ei ej => ?_⟩, st.os, st.tape, st.output, fun id a1 a2 => ?_⟩
  · obtain ⟨id, O, C, h1, h2⟩ := ho
    cases hw : W id with
    | true =>
      simp only [hw, if_true] at h1
      rcases st.own B ⟨id, O, C, h1, h2⟩ with q | q
      · exact .inl (ownK B q)
      · exact .inr q
    | false =>
      simp only [hw, Bool.false_eq_true, if_false] at h1
      exact .inl ⟨id, O, C, h1, back id B O C (AB.alive_of_own h1) h2⟩
  · cases hw : W id with
    | true => simp only [if_true]; exact st.sat.blk id
    | false =>
      simp only [Bool.false_eq_true, if_false]
      rcases ha id with e | e
      · have := st.sat.blk id
        rw [hb id hw, e] at this
        exact this
      · by_cases hal : (K id).alive = true
        · refine (hK.blk id).keep st.le (fun h0 => ?_) (fun B O C h1 h2 => st.frame B ?_ (fun ⟨j, O', C', q1, q2⟩ => ?_))
          · by_cases h3 : γ' id = none
            · exact h3
            · obtain ⟨q1, q2⟩ := st.dom id h0 h3
              rw [hd id q1 q2] at hal; cases hal
          · exact (hK.blk id).at h1 _ _ _ h2
          · have hj := seen j (AB.alive_of_own q1)
            have : j = id := hK.inj j id B O' C' O C (by rw [← hj]; exact AB.alive_of_own q1) h1 q2 h2
            subst this
            rw [e] at q1; cases q1
        · have hdd : K id = .dead := by cases hk : K id <;> rw [hk] at hal <;> first | rfl | exact absurd rfl hal
          rw [hdd]; trivial
  · have cross : ∀ i j B O C O' C', W i = true → W j = false → (hr' i).alive = true → (K j).alive = true → γ' i = some (B, O, C) → γ' j = some (B, O', C') → i = j := by
      intro i j B O C O' C' hi hj ai aj ei ej
      have ej0 := back j B O' C' aj ej
      cases ho : (hr' i).own with
      | true =>
        rcases st.own B ⟨i, O, C, ho, ei⟩ with ⟨m, O2, C2, q1, q2⟩ | q
        · have hm := seen m (AB.alive_of_own q1)
          have : m = j := hK.inj m j B O2 C2 O' C' (by rw [← hm]; exact AB.alive_of_own q1) aj q2 ej0
          subst this
          exact st.sat.inj i m B O C O' C' ai (by rw [hb m hj]; exact AB.alive_of_own q1) ei ej
        · have := (hK.blk j).at aj _ _ _ ej0; omega
      | false =>
        have e1 := st.ro i ai ho
        have e2 := hc i hi
        have ai' : (K i).alive = true := by rw [← e2, ← e1]; exact ai
        exact hK.inj i j B O C O' C' ai' aj (back i B O C ai' ei) ej0
    cases hi : W i with
    | true =>
      cases hj : W j with
      | true => simp only [hi, hj, if_true] at ai aj; exact st.sat.inj i j B O C O' C' ai aj ei ej
      | false => simp only [hi, if_true] at ai; simp only [hj, Bool.false_eq_true, if_false] at aj; exact cross i j B O C O' C' hi hj ai aj ei ej
    | false =>
      cases hj : W j with
      | true => simp only [hi, Bool.false_eq_true, if_false] at ai; simp only [hj, if_true] at aj; exact (cross j i B O' C' O C hj hi aj ai ej ei).symm
      | false => simp only [hi, Bool.false_eq_true, if_false] at ai; simp only [hj, Bool.false_eq_true, if_false] at aj; exact hK.inj i j B O C O' C' ai aj (back i B O C ai ei) (back j B O' C' aj ej)
  · cases hw : W id with
    | true => simp only [hw, if_true] at a1 a2 ⊢; rw [st.ro id a1 a2]; exact hc id hw
    | false => simp only [Bool.false_eq_true, if_false]

theorem Sat.sub {γ : Gam} {h h' : Hp} {w : World} (hs : Sat γ h w) (ha : ∀ id, h' id = h id ∨ h' id = .dead) : Sat γ h' w := by
  refine ⟨fun id => ?_, fun B o e => ⟨(hs.frz B o e).1, fun ⟨id, O, C, h1, h2⟩ => (hs.frz B o e).2 ⟨id, O, C, by (rcases ha id with q | q); (rw [← q]; exact h1); (rw [q] at h1; cases h1), h2⟩⟩, fun i j B O C O' C' ai aj => hs.inj i j B O C O' C' ?_ ?_⟩
  · rcases ha id with e | e
    · rw [e]; exact hs.blk id
    · rw [e]; trivial
  · rcases ha i with e | e
    · rw [← e]; exact ai
    · rw [e] at ai; cases ai
  · rcases ha j with e | e
    · rw [← e]; exact aj
    · rw [e] at aj; cases aj

def exC : Ex → Exit
  | .normal => .normal
  | .exit id => .exit id
  | .ret => .ret

section
variable (P : Program)

def CodeOk (c : Code) (ro : Option Nat) (fr : Fr) (s : St) (ex : Ex) (fr' : Fr) (s' : St) : Prop :=
  ∀ (γ : Gam) (a : Act) (w : World) (roC : Option Nat), RoRel γ ro roC → FrRel γ fr a → Sat γ s.at w → Fresh γ s s' →
    ∀ Q : Exit → Act → World → Prop, (∀ γ' a' w', Step s.next s'.next γ s.at w γ' s'.at w' → FrRel γ' fr' a' → Q (exC ex) a' w') → c.wpIn (FF roC) 0 P Q a w

def OpOk (o : Oper) (T : Tm) (s : St) (v : Value) (s' : St) : Prop :=
  ∀ (γ : Gam) (a : Act) (w : World) (roC : Option Nat), TRel γ T T.n a.tmps → Sat γ s.at w → Fresh γ s s' →
    ∀ (K : Act → World → Prop) (Q : Exit → Act → World → Prop), (∀ γ' w' v', Step s.next s'.next γ s.at w γ' s'.at w' → VRel γ' v v' → K (a.put o.dst v') w') → o.wpIn (FF roC) 0 P a w K Q

def OpsOk (all : Array Oper) (rest : List Oper) (ro : Option Nat) (fr : Fr) (s : St) (fr' : Fr) (s' : St) : Prop :=
  ∀ i, all.toList.drop i = rest → ∀ (γ : Gam) (a : Act) (w : World) (roC : Option Nat), RoRel γ ro roC → FrRel γ fr a → Sat γ s.at w → Fresh γ s s' →
    ∀ Q : Exit → Act → World → Prop, (∀ γ' a' w', Step s.next s'.next γ s.at w γ' s'.at w' → FrRel γ' fr' a' → Q .normal a' w') → wpOpsIn (FF roC) 0 P all Q ((List.range all.size).drop i) a w

def CallOk (f : FuncId) (args : List Value) (s : St) (v : Value) (s' : St) : Prop :=
  ∀ (γ : Gam) (args' : Array Value) (w : World), LRel γ args args'.toList → Sat γ s.at w → Fresh γ s s' →
    ∀ R : Ending → World → Prop, (∀ γ' w' v', Step s.next s'.next γ s.at w γ' s'.at w' → VRel γ' v v' → R (.returned v') w') → CallsIn Fence.wide 0 P f args' w R

def YieldOk (l : Nat) (args : List Value) (s : St) (v : Value) (s' : St) : Prop :=
  ∀ (γ : Gam) (args' : Array Value) (w : World) (L O C : Nat), γ l = some (L, O, C) → LRel γ args args'.toList → Sat γ s.at w → Fresh γ s s' →
    ∀ R : Ending → World → Prop, (∀ γ' w' v', Step s.next s'.next γ s.at w γ' s'.at w' → VRel γ' v v' → R (.returned v') w') → ∀ roC : Option Nat,
      ∃ f tmps assign body, (Instr.yield L args').run P w = .ok (.round L f tmps assign body) w ∧ RoundIn (FF roC) 0 P L f tmps assign body w R
end

omit [Rho] in
theorem maskK_ok {β : Type} (T : Tm) : ∀ (xs : List Operand) (acc : PT Value) (k : Tm → Option β) (r : β), maskK T xs acc k = some r →
    ∃ T', k T' = some r ∧ T'.n = T.n ∧ T'.d = T.d ∧ (T.n ≤ 2 ^ T.d → ∀ t v, tget T' t = some v → tget ⟨acc, T.n, T.d⟩ t = some v ∨ (Operand.tmp t ∈ xs ∧ tget T t = some v))
  | [], acc, k, r, h => ⟨_, h, rfl, rfl, fun _ t v e => .inl e⟩
  | x :: xs, acc, k, r, h => by
    have skip : maskK T xs acc k = some r → ∃ T', k T' = some r ∧ T'.n = T.n ∧ T'.d = T.d ∧ (T.n ≤ 2 ^ T.d → ∀ t v, tget T' t = some v → tget ⟨acc, T.n, T.d⟩ t = some v ∨ (Operand.tmp t ∈ x :: xs ∧ tget T t = some v)) := fun h => by
      obtain ⟨T', h1, h2, h3, h4⟩ := maskK_ok T xs acc k r h
      exact ⟨T', h1, h2, h3, fun hd t v e => (h4 hd t v e).imp id (fun ⟨a, b⟩ => ⟨List.mem_cons_of_mem _ a, b⟩)⟩
    cases x with
    | tmp t0 =>
      simp only [maskK] at h
      split at h
      · rename_i v0 hv0
        rw [PT.setK_eq] at h
        obtain ⟨T', h1, h2, h3, h4⟩ := maskK_ok T xs _ k r h
        refine ⟨T', h1, h2, h3, fun hd t v e => ?_⟩
        rcases h4 hd t v e with q | ⟨a, b⟩
        · have hlt := tget_lt q
          have ht0 := tget_lt hv0
          simp only [tget] at q
          cases hb : Nat.blt t T.n with
          | false => rw [hb] at q; cases q
          | true =>
            rw [hb, cond_true, PT.get_set T.d acc t0 t v0 (by omega) (by have : t < T.n := hlt; omega)] at q
            by_cases htt : t = t0
            · subst htt
              rw [if_pos rfl] at q
              injection q with q
              subst q
              exact .inr ⟨List.mem_cons_self, hv0⟩
            · rw [if_neg htt] at q
              exact .inl (by simp only [tget, hb, cond_true]; exact q)
        · exact .inr ⟨List.mem_cons_of_mem _ a, b⟩
      · exact skip h
    | const c => exact skip h
    | global g => exact skip h
    | func f => exact skip h
end Go.Ev
