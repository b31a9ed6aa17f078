/- An evaluator of closed Go code, part 8: variables, loads, stores, makes, appends, copies. -/
import Derived.Test.YtbghajfpjjfjcaaEvG
set_option linter.unusedSimpArgs false
set_option linter.unusedVariables false
namespace Go.Ev
open Go Go.RowKit
variable [Rho]

theorem Step.newRow {γ : Gam} {h : Hp} {w : World} {id : Nat} {c : List Value} {t : TypeId} {room : Option Nat} {arr : Array Value} {C : Nat} (hs : Sat γ h w) (hg : γ id = none)
    (hsz : c.length ≤ arr.size) (hc : LRel γ c (arr.toList.take c.length)) (hr : ∀ sz, room = some sz → C * sz ≤ arr.size ∧ c.length ≤ C * sz) (d : Nat) :
    Step id (id + 1) γ h w (γ.add id (w.heap.size, 0, C)) (fun j => if j = id then .cells c t room false else h j) { w with heap := w.heap.push (.cells arr t (0, 0)), drawn := d } := by
  refine Step.ofNew hs hg (by simp) (fun B hB => ?_) rfl rfl rfl ?_
  · simp only [Array.getElem?_push]
    rw [if_neg (by omega)]
  · refine SatB.row (Gam.add_same γ id _) (arr := arr) (by simp) (by omega) ?_ (by simpa using hr)
    simpa using hc.mono (Gam.le_add hg _)

def hAlloc {β : Type} (e : Env) (s : St) (t : TypeId) (k : K β) : Option β :=
  match e.tyOf t with
  | some i => match i.zero with
    | some z => cond (plain 8 z) (s.newK (.cells z.cells.toList t none false) fun id s' => k (.pointer (some ⟨id, 0, none⟩)) s') none
    | none => none
  | none => none

theorem hAlloc_ok {β : Type} {P : Program} {e : Env} (he : Env.Ok P e) {T : Tm} {s : St} {o : Oper} {t : TypeId} {k : K β} {r : β} (ho : o.op = .alloc t) (h : hAlloc e s t k = some r) (hw : s.Wf) :
    ∃ v s', k v s' = some r ∧ Raw s s' ∧ HOk P o T s s' v := by
  unfold hAlloc at h
  split at h
  · rename_i i hi
    split at h
    · rename_i z hz
      cases hp : plain 8 z with
      | false => simp only [hp, cond_false] at h; cases h
      | true =>
        simp only [hp, cond_true] at h
        obtain ⟨s', hk, hraw, hn, hd, hat⟩ := St.newK_inv h hw
        refine ⟨_, s', hk, hraw, fun γ n a w hT hS hf => ?_⟩
        have hg := hf s.next (Nat.le_refl _) (by omega)
        have hz' := ok_zero he hi hz w
        refine ⟨_, { w with heap := w.heap.push (.cells z.cells t (0, 0)), drawn := w.drawn }, _, ?_, .ptr 0 (Gam.add_same γ s.next (w.heap.size, 0, 0)), .inl ?_⟩
        · rw [hn, hat]
          exact Step.newRow hS hg (by simp) (by rw [List.take_of_length_le (Nat.le_refl _)]; exact (plain_rel γ 8 z hp).cells) (by simp) _
        · simp [execOp, ho, Instr.alloc, hz', newVar, newRow]
    · cases h
  · cases h

def hBox {β : Type} (T : Tm) (s : St) (t : TypeId) (x : Operand) (k : K β) : Option β :=
  match aev T x with
  | some v => s.newK (.cells v.cells.toList t none false) fun id s' => k (.pointer (some ⟨id, 0, none⟩)) s'
  | none => none

theorem hBox_ok {β : Type} {P : Program} {T : Tm} {s : St} {o : Oper} {t : TypeId} {x : Operand} {k : K β} {r : β} (ho : o.op = .box t x) (h : hBox T s t x k = some r) (hw : s.Wf) :
    ∃ v s', k v s' = some r ∧ Raw s s' ∧ HOk P o T s s' v := by
  unfold hBox at h
  split at h
  · rename_i v hv
    obtain ⟨s', hk, hraw, hn, hd, hat⟩ := St.newK_inv h hw
    refine ⟨_, s', hk, hraw, fun γ n a w hT hS hf => ?_⟩
    have hg := hf s.next (Nat.le_refl _) (by omega)
    have hr := aev_rel hT hv
    refine ⟨_, { w with heap := w.heap.push (.cells (a.eval x).cells t (0, 0)), drawn := w.drawn }, _, ?_, .ptr 0 (Gam.add_same γ s.next (w.heap.size, 0, 0)), .inl ?_⟩
    · rw [hn, hat]
      have hc := hr.cells
      exact Step.newRow hS hg (by have := hc.1; simp at this ⊢; omega) (by rw [List.take_of_length_le (by rw [hc.1]; exact Nat.le_refl _)]; exact hc) (by simp) _
    · simp [execOp, ho, Instr.box, newVar, newRow]
  · cases h

def hLoad {β : Type} (e : Env) (T : Tm) (s : St) (t : TypeId) (x : Operand) (k : K β) : Option β :=
  match aev T x, e.tyOf t with
  | some (.pointer (some ⟨b, o, none⟩)), some i => match s.at b with
    | .cells c _ _ _ => cond (Nat.ble (o + i.size) c.length) (match partL i c o with
      | some v => k v s
      | none => none) none
    | _ => none
  | _, _ => none

theorem hLoad_ok {β : Type} {P : Program} {e : Env} (he : Env.Ok P e) {T : Tm} {s : St} {o : Oper} {t : TypeId} {x : Operand} {k : K β} {r : β} (ho : o.op = .load t x) (h : hLoad e T s t x k = some r) (hw : s.Wf) :
    ∃ v s', k v s' = some r ∧ Raw s s' ∧ HOk P o T s s' v := by
  unfold hLoad at h
  split at h
  · rename_i b off i hx hi
    split at h
    · rename_i c t' room ro hb
      cases hle : Nat.ble (off + i.size) c.length with
      | false => simp only [hle, cond_false] at h; cases h
      | true =>
        simp only [hle, cond_true] at h
        have hle' := Nat.le_of_ble_eq_true hle
        split at h
        · rename_i v hv
          refine ⟨v, s, h, Raw.refl hw, fun γ n a w hT hS hf => ?_⟩
          obtain ⟨B, O, C, hg, hx'⟩ := (aev_rel hT hx).ptr_inv
          have hsb := hS.blk b
          rw [hb] at hsb
          obtain ⟨B', O', C', arr, hg', ha, hsz, hc, _⟩ := hsb.cells_inv
          rw [hg] at hg'; cases hg'
          obtain ⟨hdesc, j, hj, hjs, _, _⟩ := he.ty t i hi
          unfold partL at hv
          cases hag : isAggD i.desc with
          | true =>
            simp only [hag, cond_true] at hv
            injection hv with hv
            subst hv
            obtain ⟨cs, hl, hrel, hrange⟩ := row_part ha hsz hc hle'
            refine ⟨γ, w, _, Step.refl hS, VRel.aggOf hrel, .inl ?_⟩
            have hrow : i.desc.isRow = true := by cases hd : i.desc <;> simp [hd, isAggD] at hag <;> rfl
            simp [execOp, ho, hx', run_loadAt_mid w B (O + off) t cs i.desc hrange hdesc hrow (by simp [hj, hjs, hl])]
          | false =>
            simp only [hag, cond_false] at hv
            obtain ⟨hlt, rfl⟩ := List.getElem?_eq_some_iff.1 hv
            obtain ⟨cs, hl, hrel, hrange⟩ := row_part ha hsz hc (o := off) (m := 1) (by omega)
            obtain ⟨v', hv', hvr⟩ := hrel.get (i := 0) (v := c[off]) (by simp [List.getElem?_take, hlt])
            refine ⟨γ, w, v', Step.refl hS, hvr, .inl ?_⟩
            have hcell := hrange 0 v' hv'
            simp only [Nat.add_zero] at hcell
            simp [execOp, ho, hx', Instr.loadAt, Instr.sureAddr, loadVar, ok_isAgg he hi, hag, hcell]
        · cases h
    · cases h
  · cases h

/-- Cells of a row are written. -/
theorem SatB.setSeg {γ : Gam} {w : World} {id : Nat} {c : List Value} {t : TypeId} {room : Option Nat} {ro' : Bool} {B O C : Nat} {arr : Array Value} (hg : γ id = some (B, O, C))
    (ha : w.heap[B]? = some (.cells arr t (0, 0))) (hsz : O + c.length ≤ arr.size) (hc : LRel γ c ((arr.toList.drop O).take c.length)) (hr : ∀ sz, room = some sz → O + C * sz ≤ arr.size ∧ c.length ≤ C * sz)
    {o : Nat} {vs vs' : List Value} (hv : LRel γ vs vs') (ho : o + vs.length ≤ c.length) :
    SatB γ (w.setRow B (arr.toList.take (O + o) ++ vs' ++ arr.toList.drop (O + o + vs'.length)).toArray) id (.cells (setSeg c o vs) t room ro') := by
  have hlen : (c.take o ++ vs ++ c.drop (o + vs.length)).length = c.length := by simp; omega
  have hv1 := hv.1
  rw [setSeg_eq c o vs ho]
  refine SatB.row hg (setRow_heap w B arr _ t _ ha) (by rw [hlen]; simp; omega) ?_ (fun sz hs => by rw [hlen]; simp; have := hr sz hs; omega)
  rw [hlen]
  have e : ((arr.toList.take (O + o) ++ vs' ++ arr.toList.drop (O + o + vs'.length)).toArray.toList.drop O).take c.length =
      ((arr.toList.drop O).take c.length).take o ++ vs' ++ ((arr.toList.drop O).take c.length).drop (o + vs.length) := by
    apply List.ext_getElem?
    intro j
    simp only [List.getElem?_take, List.getElem?_drop, List.getElem?_append, List.length_append, List.length_take, List.length_drop, Array.length_toList]
    have e1 : min (O + o) arr.size = O + o := by omega
    have e2 : min c.length (arr.size - O) = c.length := by omega
    have e3 : min o c.length = o := by omega
    simp only [e1, e2, e3]
    by_cases h1 : j < o
    · simp [h1, show O + j < O + o + vs'.length by omega, show O + j < O + o by omega, show j < c.length by omega, show j < o + vs'.length by omega]
    · by_cases h2 : j < o + vs'.length
      · simp [h1, h2, show O + j < O + o + vs'.length by omega, show ¬ O + j < O + o by omega, show j < c.length by omega, show O + j - (O + o) = j - o by omega]
      · simp only [h1, h2, show ¬ O + j < O + o + vs'.length by omega, if_false]
        by_cases h3 : j < c.length
        · have e5 : O + o + vs'.length + (O + j - (O + o + vs'.length)) = O + (o + vs.length + (j - (o + vs'.length))) := by omega
          simp only [h3, if_true, show o + vs.length + (j - (o + vs'.length)) < c.length by omega, e5]
        · simp only [h3, if_false, show ¬ o + vs.length + (j - (o + vs'.length)) < c.length by omega]
  rw [e]
  exact ((hc.take _).append hv).append (hc.drop _)

def hStore {β : Type} (e : Env) (T : Tm) (s : St) (t : TypeId) (x y : Operand) (k : K β) : Option β :=
  match aev T x, aev T y, e.tyOf t with
  | some (.pointer (some ⟨b, o, none⟩)), some v, some i => match s.at b with
    | .cells c t' room ro => cond ro none (cond (Nat.beq v.cells.toList.length i.size) (cond (one' v.cells.toList) (cond (Nat.ble (o + v.cells.toList.length) c.length) (cond (Nat.blt b s.next)
        (setSegK c o v.cells.toList fun c' => s.putK b (.cells c' t' room false) fun s' => k undef s') none) none) none) none)
    | _ => none
  | _, _, _ => none

omit [Rho] in
theorem St.sees_of_at {s : St} {b : Nat} {x : AB} (h : s.at b = x) (hx : x ≠ .dead) : s.sees b = true := by
  unfold St.at at h
  cases hs : s.sees b with
  | true => rfl
  | false => rw [hs] at h; exact absurd h.symm hx

theorem hStore_ok {β : Type} {P : Program} {e : Env} (he : Env.Ok P e) {T : Tm} {s : St} {o : Oper} {t : TypeId} {x y : Operand} {k : K β} {r : β} (ho : o.op = .store t x y) (h : hStore e T s t x y k = some r) (hw : s.Wf) :
    ∃ v s', k v s' = some r ∧ Raw s s' ∧ HOk P o T s s' v := by
  unfold hStore at h
  split at h
  · rename_i b off v i hx hy hi
    split at h
    · rename_i c t' room ro hb
      cases hro : ro with
      | true => simp only [hro, cond_true] at h; cases h
      | false =>
      simp only [hro, cond_false] at h
      cases h1 : Nat.beq v.cells.toList.length i.size with
      | false => simp only [h1, cond_false] at h; cases h
      | true =>
      cases h2 : one' v.cells.toList with
      | false => simp only [h1, h2, cond_true, cond_false] at h; cases h
      | true =>
      cases h3 : Nat.ble (off + v.cells.toList.length) c.length with
      | false => simp only [h1, h2, h3, cond_true, cond_false] at h; cases h
      | true =>
      cases h4 : Nat.blt b s.next with
      | false => simp only [h1, h2, h3, h4, cond_true, cond_false] at h; cases h
      | true =>
        simp only [h1, h2, h3, h4, cond_true, setSegK_eq] at h
        have h1' := Nat.eq_of_beq_eq_true h1
        have h3' := Nat.le_of_ble_eq_true h3
        have h4' : b < s.next := Nat.le_of_ble_eq_true h4
        obtain ⟨s', hk, hraw, hn, hat⟩ := St.putK_inv h hw (St.sees_of_at hb (by simp)) h4'
        refine ⟨_, s', hk, hraw, fun γ n a w hT hS hf => ?_⟩
        obtain ⟨B, O, C, hg, hx'⟩ := (aev_rel hT hx).ptr_inv
        have hsb := hS.blk b
        rw [hb] at hsb
        obtain ⟨B', O', C', arr, hg', ha, hsz, hc, hr⟩ := hsb.cells_inv
        rw [hg] at hg'; cases hg'
        obtain ⟨hdesc, j, hj, hjs, _, _⟩ := he.ty t i hi
        have hv := aev_rel hT hy
        have hvc := hv.cells
        have hst := run_storeCells_at P B (O + off) t' (a.eval y).cells.toList 0 arr w ha (by have := hvc.1; omega) (one'_rel hvc h2)
        refine ⟨γ, w.setRow B (arr.toList.take (O + off) ++ (a.eval y).cells.toList ++ arr.toList.drop (O + off + (a.eval y).cells.toList.length)).toArray, undef, ?_, .tuple _ _ rfl (fun i h1 _ => by simp at h1), .inr ⟨rfl, rfl, ?_⟩⟩
        · rw [hn, hat]
          exact Step.ofPut hS (by rw [hb, hro]; rfl) hg (by simp) (fun B' hB' => setRow_other w B B' _ hB') rfl rfl rfl (SatB.setSeg hg ha hsz hc hr hvc h3')
        · have hsz2 : (a.eval y).cells.size = j.size := by rw [hjs, ← h1', hvc.1]; simp
          simp only [Nat.add_zero] at hst
          simp [execOp, ho, hx', Instr.storeAt, Instr.sureAddr, storeVar, sizeOf, typeInfo, hj, hsz2, hst]
    · cases h
  · cases h
end Go.Ev
