/- An evaluator of closed Go code, part 7: operations that make, read and write memory. -/
import Derived.Test.YtbghajfpjjfjcaaEvF
set_option linter.unusedSimpArgs false
set_option linter.unusedVariables false
namespace Go.Ev
open Go Go.RowKit
variable [Rho]

def HOk (P : Program) (o : Oper) (T : Tm) (s s' : St) (v : Value) : Prop :=
  ∀ (γ : Gam) (n : Nat) (a : Act) (w : World), TRel γ T n a.tmps → Sat γ s.at w → (∀ id, s.next ≤ id → id < s'.next → γ id = none) →
    ∃ γ' w' v', Step s.next s'.next γ s.at w γ' s'.at w' ∧ VRel γ' v v' ∧
      ((execOp a.eval o).run P w = .ok (.value v') w' ∨ (v = undef ∧ v' = undef ∧ (execOp a.eval o).run P w = .ok .skip w'))

abbrev K (β : Type) := Value → St → Option β

/-! ### lists, strictly -/
def setSeg : List Value → Nat → List Value → List Value
  | [], _, _ => []
  | _ :: c, 0, v :: vs => v :: setSeg c 0 vs
  | x :: c, 0, [] => x :: c
  | x :: c, o + 1, vs => x :: setSeg c o vs
def setSegK {β : Type} : List Value → Nat → List Value → (List Value → β) → β
  | [], _, _, k => k []
  | _ :: c, 0, v :: vs, k => setSegK c 0 vs fun r => k (v :: r)
  | x :: c, 0, [], k => k (x :: c)
  | x :: c, o + 1, vs, k => setSegK c o vs fun r => k (x :: r)
omit [Rho] in
theorem setSegK_eq {β : Type} : ∀ (c : List Value) (o : Nat) (vs : List Value) (k : List Value → β), setSegK c o vs k = k (setSeg c o vs)
  | [], o, vs, k => by cases o <;> cases vs <;> rfl
  | x :: c, 0, [], k => rfl
  | x :: c, 0, v :: vs, k => by simp only [setSegK, setSeg, setSegK_eq c 0 vs]
  | x :: c, o + 1, vs, k => by cases vs <;> simp only [setSegK, setSeg, setSegK_eq c o]
omit [Rho] in
theorem setSeg_eq : ∀ (c : List Value) (o : Nat) (vs : List Value), o + vs.length ≤ c.length → setSeg c o vs = c.take o ++ vs ++ c.drop (o + vs.length)
  | [], o, vs, h => by
    have : vs = [] := by cases vs with | nil => rfl | cons v vs => simp at h
    subst this; cases o <;> simp [setSeg]
  | x :: c, 0, [], h => by simp [setSeg]
  | x :: c, 0, v :: vs, h => by
    have := setSeg_eq c 0 vs (by simp at h ⊢; omega)
    simp [setSeg, this]
  | x :: c, o + 1, vs, h => by
    have h' : o + vs.length ≤ c.length := by simp at h; omega
    have := setSeg_eq c o vs h'
    have e : o + 1 + vs.length = (o + vs.length) + 1 := by omega
    cases vs with
    | nil => simp [setSeg, this]
    | cons v vs => simp only [setSeg, this, e, List.take_succ_cons, List.drop_succ_cons, List.cons_append]
def appK {β : Type} : List Value → List Value → (List Value → β) → β
  | [], b, k => k b
  | x :: a, b, k => appK a b fun r => k (x :: r)
omit [Rho] in
theorem appK_eq {β : Type} : ∀ (a b : List Value) (k : List Value → β), appK a b k = k (a ++ b)
  | [], b, k => rfl
  | x :: a, b, k => by simp only [appK, appK_eq a b, List.cons_append]
def dropL : Nat → List Value → List Value
  | 0, l => l
  | _ + 1, [] => []
  | n + 1, _ :: l => dropL n l
omit [Rho] in
theorem dropL_eq : ∀ (n : Nat) (l : List Value), dropL n l = l.drop n
  | 0, l => by cases l <;> rfl
  | n + 1, [] => by simp [dropL]
  | n + 1, x :: l => by simp [dropL, dropL_eq n l]
def takeK {β : Type} : Nat → List Value → (List Value → β) → β
  | 0, _, k => k []
  | _ + 1, [], k => k []
  | n + 1, x :: l, k => takeK n l fun r => k (x :: r)
omit [Rho] in
theorem takeK_eq {β : Type} : ∀ (n : Nat) (l : List Value) (k : List Value → β), takeK n l k = k (l.take n)
  | 0, l, k => by cases l <;> rfl
  | n + 1, [], k => by simp [takeK]
  | n + 1, x :: l, k => by simp [takeK, takeK_eq n l]
def one' : List Value → Bool
  | [] => true
  | v :: l => cond v.oneCell' (one' l) false
omit [Rho] in
theorem one'_iff : ∀ l : List Value, one' l = true ↔ ∀ v ∈ l, v.oneCell' = true
  | [] => by simp [one']
  | v :: l => by
    simp only [one', List.mem_cons, forall_eq_or_imp]
    cases h : v.oneCell' with
    | true => simp [one'_iff l]
    | false => simp
def zrep : Nat → List Value → List Value
  | 0, _ => []
  | n + 1, z => z ++ zrep n z
omit [Rho] in
theorem zrep_len : ∀ (n : Nat) (z : List Value), (zrep n z).length = n * z.length
  | 0, z => by simp [zrep]
  | n + 1, z => by simp [zrep, zrep_len n z, Nat.succ_mul]; omega
omit [Rho] in
theorem zrep_get : ∀ (n : Nat) (z : List Value) (i : Nat), i < n * z.length → (zrep n z)[i]? = z[i % z.length]?
  | 0, z, i, h => by simp at h
  | n + 1, z, i, h => by
    simp only [zrep, List.getElem?_append]
    by_cases hi : i < z.length
    · simp [hi, Nat.mod_eq_of_lt hi]
    · simp only [hi, if_false]
      rw [zrep_get n z (i - z.length) (by rw [Nat.succ_mul] at h; omega), ← Nat.mod_eq_sub_mod (by omega)]

omit [Rho] in
theorem zrep_array (n : Nat) (z : Array Value) : ((Array.range (n * z.size)).map (fun i => z[i % z.size]!)).toList = zrep n z.toList := by
  apply List.ext_getElem?
  intro i
  by_cases hi : i < n * z.size
  · rw [zrep_get n z.toList i (by simpa using hi)]
    have hz : 0 < z.size := by rcases Nat.eq_zero_or_pos z.size with h | h; · rw [h] at hi; simp at hi
                               · exact h
    have hm : i % z.size < z.size := Nat.mod_lt _ hz
    simp [hi, hm]
  · have h1 : (zrep n z.toList).length ≤ i := by rw [zrep_len]; simpa using Nat.le_of_not_lt hi
    simp [List.getElem?_eq_none h1, hi]

theorem zrep_rel {γ : Gam} {z z' : List Value} (h : LRel γ z z') : ∀ n, LRel γ (zrep n z) (zrep n z')
  | 0 => .nil γ
  | n + 1 => h.append (zrep_rel h n)

theorem oneCell_rel {γ : Gam} {v v' : Value} (h : VRel γ v v') : v'.oneCell' = v.oneCell' := by cases h <;> first | rfl | exact Rho.one' _
theorem one'_rel {γ : Gam} {l l' : List Value} (h : LRel γ l l') (h1 : one' l = true) : ∀ v ∈ l', v.oneCell' = true := by
  intro v hv
  obtain ⟨i, hi, rfl⟩ := List.getElem_of_mem hv
  rw [oneCell_rel (h.2 i (by rw [h.1]; exact hi) hi)]
  exact (one'_iff l).1 h1 _ (List.getElem_mem _)

/-! ### what a row of cells says -/
theorem SatB.row {γ : Gam} {w : World} {id : Nat} {c : List Value} {t : TypeId} {room : Option Nat} {ro : Bool} {B O C : Nat} (hg : γ id = some (B, O, C)) {arr : Array Value}
    (ha : w.heap[B]? = some (.cells arr t (0, 0))) (hsz : O + c.length ≤ arr.size) (hc : LRel γ c ((arr.toList.drop O).take c.length)) (hr : ∀ sz, room = some sz → O + C * sz ≤ arr.size ∧ c.length ≤ C * sz) :
    SatB γ w id (.cells c t room ro) :=
  ⟨B, O, C, arr, hg, ha, hsz, fun i hi => ⟨arr[O + i], Array.getElem?_eq_getElem _, by
    have := hc.2 i hi (by simp; omega)
    simpa using this⟩, hr⟩

theorem SatB.cells_inv {γ : Gam} {w : World} {id : Nat} {c : List Value} {t : TypeId} {room : Option Nat} {ro : Bool} (h : SatB γ w id (.cells c t room ro)) :
    ∃ B O C arr, γ id = some (B, O, C) ∧ w.heap[B]? = some (.cells arr t (0, 0)) ∧ O + c.length ≤ arr.size ∧ LRel γ c ((arr.toList.drop O).take c.length) ∧ (∀ sz, room = some sz → O + C * sz ≤ arr.size ∧ c.length ≤ C * sz) := by
  obtain ⟨B, O, C, arr, h1, h2, hsz, h3, h4⟩ := h
  refine ⟨B, O, C, arr, h1, h2, hsz, ⟨by simp; omega, fun i i1 i2 => ?_⟩, h4⟩
  obtain ⟨v', e, hv⟩ := h3 i i1
  have e' := (Array.getElem?_eq_some_iff.1 e).2
  simp only [List.getElem_take, List.getElem_drop, Array.getElem_toList]
  rw [e']
  exact hv

/-- A part of a row, as the world has it. -/
theorem row_part {γ : Gam} {w : World} {c : List Value} {t : TypeId} {B O : Nat} {arr : Array Value} (ha : w.heap[B]? = some (.cells arr t (0, 0))) (hsz : O + c.length ≤ arr.size)
    (hc : LRel γ c ((arr.toList.drop O).take c.length)) {o m : Nat} (hm : o + m ≤ c.length) :
    ∃ cs, cs.length = m ∧ LRel γ ((c.drop o).take m) cs ∧ w.rangeAt B (O + o) cs := by
  refine ⟨(((arr.toList.drop O).take c.length).drop o).take m, by simp; omega, (hc.drop o).take m, fun j v hj => ?_⟩
  have hjm : j < m := by
    have := (List.getElem?_eq_some_iff.1 hj).1
    simp at this; omega
  simp only [List.getElem?_take, List.getElem?_drop, hjm, if_true, show o + j < c.length by omega] at hj
  have hj' : arr[O + (o + j)]? = some v := by simpa using hj
  simp only [World.cell?, ha]
  simp [Nat.add_assoc, hj']
end Go.Ev
