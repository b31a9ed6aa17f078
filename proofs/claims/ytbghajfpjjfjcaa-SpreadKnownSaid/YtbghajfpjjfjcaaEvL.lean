/- An evaluator of closed Go code, part 12: copies and maps; all operations on memory together. -/
import Derived.Test.YtbghajfpjjfjcaaEvLs
set_option linter.unusedSimpArgs false
set_option linter.unusedVariables false
namespace Go.Ev
open Go Go.RowKit
variable [Rho]

def hCopy {β : Type} (e : Env) (T : Tm) (s : St) (x y : Operand) (t : TypeId) (k : K β) : Option β :=
  match e.tyOf t, aev T x, aev T y with
  | some i, some (.slice (some ⟨b, o, none⟩) dl _), some (.slice (some ⟨b2, o2, none⟩) n _) => match i.desc with
    | .slice el => match e.tyOf el, s.at b, s.at b2 with
      | some te, .cells cs t' room ro, .cells c2 _ _ _ => cond ro none (cond (Nat.blt b s.next) (forceNat (Nat.min n dl) fun m => cond (Nat.ble (o2 + m * te.size) c2.length) (cond (Nat.ble (o + m * te.size) cs.length)
          (takeK (m * te.size) (dropL o2 c2) fun l => cond (one' l) (setSegK cs o l fun cs' => s.putK b (.cells cs' t' room false) fun s' => k (.int .i64 m) s') none) none) none) none)
      | _, _, _ => none
    | _ => none
  | some i, some (.slice _ _ _), some (.slice none 0 _) => match i.desc with
    | .slice el => match e.tyOf el with
      | some _ => k (.int .i64 0) s
      | none => none
    | _ => none
  | _, _, _ => none

omit [Rho] in
theorem exec_copy {P : Program} {a : Act} {o : Oper} {x y : Operand} {t tx : TypeId} (ho : o.op = .call ⟨.builtin .copy, #[x, y], #[t, tx]⟩) {w w' : World} {v : Value}
    (h : (Builtin.copy_ #[t, tx] o.type #[a.eval x, a.eval y]).run P w = .ok v w') : (execOp a.eval o).run P w = .ok (.value v) w' := by
  simp [execOp, ho, resolve, invoke, builtin, h]

theorem hCopy_ok {β : Type} {P : Program} {e : Env} (he : Env.Ok P e) {T : Tm} {s : St} {o : Oper} {x y : Operand} {t tx : TypeId} {k : K β} {r : β} (ho : o.op = .call ⟨.builtin .copy, #[x, y], #[t, tx]⟩)
    (h : hCopy e T s x y t k = some r) (hw : s.Wf) : ∃ v s', k v s' = some r ∧ Raw s s' ∧ HOk P o T s s' v := by
  unfold hCopy at h
  split at h
  · rename_i i b off dl dc b2 off2 n c2cap hi hx hy
    split at h
    case h_2 => cases h
    rename_i el hd
    split at h
    case h_2 => cases h
    rename_i te cs t' room ro c2 t2 room2 ro2 hte hb hb2
    cases hro : ro with
    | true => simp only [hro, cond_true] at h; cases h
    | false =>
    cases h1 : Nat.blt b s.next with
    | false => simp only [hro, h1, cond_false] at h; cases h
    | true =>
    simp only [hro, h1, cond_true, cond_false, forceNat_eq] at h
    cases h2 : Nat.ble (off2 + Nat.min n dl * te.size) c2.length with
    | false => simp only [h2, cond_false] at h; cases h
    | true =>
    cases h3 : Nat.ble (off + Nat.min n dl * te.size) cs.length with
    | false => simp only [h2, h3, cond_true, cond_false] at h; cases h
    | true =>
    simp only [h2, h3, cond_true, takeK_eq, dropL_eq, setSegK_eq] at h
    cases h4 : one' ((c2.drop off2).take (Nat.min n dl * te.size)) with
    | false => simp only [h4, cond_false] at h; cases h
    | true =>
      simp only [h4, cond_true] at h
      have h1' : b < s.next := Nat.le_of_ble_eq_true h1
      have h2' := Nat.le_of_ble_eq_true h2
      have h3' := Nat.le_of_ble_eq_true h3
      obtain ⟨s', hk, hraw, hn, hat⟩ := St.putK_inv h hw (St.sees_of_at hb (by simp)) h1'
      refine ⟨_, s', hk, hraw, fun γ m a w hT hS hf => ?_⟩
      obtain ⟨B, O, C, hg, hln, hx'⟩ := (aev_rel hT hx).slice_inv
      obtain ⟨B2, O2, C2, hg2, hln2, hy'⟩ := (aev_rel hT hy).slice_inv
      have hsb := hS.blk b
      rw [hb] at hsb
      obtain ⟨B', O', C', arr, hg', ha, hsz, hc, hr⟩ := hsb.cells_inv
      rw [hg] at hg'; cases hg'
      have hsb2 := hS.blk b2
      rw [hb2] at hsb2
      obtain ⟨B2', O2', C2', arr2, hg2', ha2, hsz2, hc2, _⟩ := hsb2.cells_inv
      rw [hg2] at hg2'; cases hg2'
      obtain ⟨l, hl, hrel, hrange⟩ := row_part ha2 hsz2 hc2 h2'
      have hu := ok_underlying he hi w
      rw [hd] at hu
      have hload := run_firstCells_some (P := P) w te.size (Nat.min n dl) ⟨B2, O2 + off2, none⟩ n (capOf C2 c2cap) l hl (fun j v hj => by rw [Addr.add_mid]; exact hrange j v hj)
      have hst := run_storeCells_at P B (O + off) t' l 0 arr w ha (by omega) (one'_rel hrel h4)
      simp only [Nat.add_zero] at hst
      refine ⟨γ, w.setRow B (arr.toList.take (O + off) ++ l ++ arr.toList.drop (O + off + l.length)).toArray, _, ?_, .int _ _, .inl (exec_copy ho ?_)⟩
      · rw [hn, hat]
        exact Step.ofPut hS (by rw [hb, hro]; rfl) hg (by simp) (fun B' hB' => setRow_other w B B' _ hB') rfl rfl rfl (SatB.setSeg hg ha hsz hc hr hrel (by rw [hrel.1, hl]; exact h3'))
      · simp [Builtin.copy_, hx', hy', hu, Builtin.lenOf, ok_sizeOf he hte, hload, hst, goInt]
  · rename_i i p dl dc c hi hx hy
    split at h
    case h_2 => cases h
    rename_i el hd
    split at h
    case h_2 => cases h
    rename_i te hte
    refine ⟨_, s, h, Raw.refl hw, fun γ m a w hT hS hf => ?_⟩
    have hu := ok_underlying he hi w
    rw [hd] at hu
    have hxr := aev_rel hT hx
    have hyr := aev_rel hT hy
    generalize hx' : a.eval x = x' at hxr
    generalize hy' : a.eval y = y' at hyr
    refine ⟨γ, w, _, Step.refl hS, .int _ _, .inl (exec_copy ho ?_)⟩
    cases hyr
    cases hxr with
    | nilslice => simp [Builtin.copy_, hx', hy', hu, Builtin.lenOf, ok_sizeOf he hte, Builtin.firstCells, goInt]
    | slice => simp [Builtin.copy_, hx', hy', hu, Builtin.lenOf, ok_sizeOf he hte, Builtin.firstCells, goInt, storeCells]
    | slicee => simp [Builtin.copy_, hx', hy', hu, Builtin.lenOf, ok_sizeOf he hte, Builtin.firstCells, goInt, storeCells]
  · cases h

/-! ### maps -/
def hMakeMap {β : Type} (s : St) (r : Option Operand) (k : K β) : Option β :=
  match r with
  | none => s.newK (.map [] 0) fun id s' => k (.map (some id)) s'
  | some _ => none

theorem hMakeMap_ok {β : Type} {P : Program} {T : Tm} {s : St} {o : Oper} {t : TypeId} {x : Option Operand} {k : K β} {r : β} (ho : o.op = .makeMap t x) (h : hMakeMap s x k = some r) (hw : s.Wf) :
    ∃ v s', k v s' = some r ∧ Raw s s' ∧ HOk P o T s s' v := by
  unfold hMakeMap at h
  split at h
  · obtain ⟨s', hk, hraw, hn, hd, hat⟩ := St.newK_inv h hw
    refine ⟨_, s', hk, hraw, fun γ n a w hT hS hf => ?_⟩
    have hg := hf s.next (Nat.le_refl _) (by omega)
    refine ⟨γ.add s.next (w.heap.size, 0, 0), { w with heap := w.heap.push (.map #[] 0), drawn := w.drawn }, _, ?_, .map (Gam.add_same γ s.next (w.heap.size, 0, 0)), .inl ?_⟩
    · rw [hn, hat]
      refine Step.ofNew hS hg (by simp) (fun B hB => by simp only [Array.getElem?_push]; rw [if_neg (by omega)]) rfl rfl rfl ?_
      exact ⟨w.heap.size, 0, 0, #[], Gam.add_same γ s.next _, by simp, rfl, fun i h1 _ => by simp at h1⟩
    · simp [execOp, ho, Instr.makeMap]
  · cases h

def keyKind : TypeDesc → Bool
  | .int _ | .string | .bool => true
  | _ => false

def ERel (γ : Gam) (es : List MapEntry) (es' : List MapEntry) : Prop :=
  es'.length = es.length ∧ ∀ i (h : i < es.length) (h' : i < es'.length), VRel γ es[i].key es'[i].key ∧ VRel γ es[i].val es'[i].val ∧ es[i].born = es'[i].born

theorem sameNow_rel {γ : Gam} {d : TypeDesc} {k x x' : Value} (hx : VRel γ x x') {b : Bool} (h : Instr.sameNow d k x = some b) : x' = x := by
  unfold Instr.sameNow at h
  split at h
  · cases hx; rfl
  · cases hx; rfl
  · cases hx; rfl
  · cases h

theorem findNow_rel {γ : Gam} {d : TypeDesc} {k : Value} : ∀ (es es' : List MapEntry) (i : Nat) (res : Option (Nat × Value)), ERel γ es es' → Instr.findNow d k es i = some res →
    (res = none ∧ Instr.findNow d k es' i = some none) ∨ ∃ j v v' e e', res = some (i + j, v) ∧ VRel γ v v' ∧ es[j]? = some e ∧ es'[j]? = some e' ∧ e.val = v ∧ Instr.sameNow d k e.key = some true ∧ Instr.findNow d k es' i = some (some (i + j, v'))
  | [], [], i, res, _, h => by simp [Instr.findNow] at h; subst h; exact .inl ⟨rfl, rfl⟩
  | [], _ :: _, _, _, h, _ => by have := h.1; simp at this
  | _ :: _, [], _, _, h, _ => by have := h.1; simp at this
  | x :: es, x' :: es', i, res, hr, h => by
    have h0 := hr.2 0 (by simp) (by simp)
    simp only [List.getElem_cons_zero] at h0
    have ht : ERel γ es es' := ⟨by have := hr.1; simpa using this, fun j h1 h2 => hr.2 (j + 1) (Nat.succ_lt_succ h1) (Nat.succ_lt_succ h2)⟩
    simp only [Instr.findNow] at h ⊢
    cases hs : Instr.sameNow d k x.key with
    | none => simp [hs] at h
    | some b =>
      have hk := sameNow_rel h0.1 hs
      rw [hk, hs]
      cases b with
      | true =>
        simp [hs] at h
        subst h
        exact .inr ⟨0, x.val, x'.val, x, x', rfl, h0.2.1, rfl, rfl, rfl, hs, rfl⟩
      | false =>
        simp [hs] at h
        rcases findNow_rel es es' (i + 1) res ht h with ⟨h1, h2⟩ | ⟨j, v, v', e, e', h1, h2, h3, h4, h5, h6, h7⟩
        · exact .inl ⟨h1, h2⟩
        · have e : i + 1 + j = i + (j + 1) := by omega
          rw [e] at h1 h7
          exact .inr ⟨j + 1, v, v', _, e', h1, h2, by simpa using h3, by simpa using h4, h5, h6, h7⟩

theorem SatB.map_inv {γ : Gam} {w : World} {id : Nat} {es : List MapEntry} {clock : Nat} (h : SatB γ w id (.map es clock)) :
    ∃ B O C es', γ id = some (B, O, C) ∧ w.heap[B]? = some (.map es' clock) ∧ ERel γ es es'.toList := by
  obtain ⟨B, O, C, es', h1, h2, h3, h4⟩ := h
  exact ⟨B, O, C, es', h1, h2, by simpa using h3, fun i hi hi' => by simpa using h4 i hi (by simpa using hi')⟩

def isStructD : TypeDesc → Bool
  | .struct _ => true
  | _ => false
/-- May this key be looked up? -/
def keyFit (e : Env) (t : TypeId) (d : TypeDesc) (k : Value) : Bool := cond (keyKind d) true (cond (isStructD d) (e.keyOk t k) false)
def askA (e : Env) (t : TypeId) (k : Value) : List MapEntry → Nat → Option (Option (Nat × Value))
  | [], _ => some none
  | x :: es, i => cond (plain 8 x.key) (match e.keyEq t k x.key with
    | some true => cond (Instr.sameBits 10000 x.key k) (some (some (i, x.val))) none
    | some false => askA e t k es (i + 1)
    | none => none) none
def findA (e : Env) (t : TypeId) (d : TypeDesc) (k : Value) (es : List MapEntry) : Option (Option (Nat × Value)) := cond (keyKind d) (Instr.findNow d k es 0) (askA e t k es 0)

omit [Rho] in
theorem checkKey_plain {P : Program} {t : TypeId} {d : TypeDesc} (hd : P.underlying t = some d) (hk : keyKind d = true) (em : Bool) (v : Value) (w : World) : (Instr.checkKey em 10000 t v).run P w = .ok () w := by
  obtain ⟨n, hn⟩ : ∃ n, 10000 = n + 1 := ⟨9999, rfl⟩
  rw [hn]
  cases d <;> simp [keyKind] at hk <;> simp [Instr.checkKey, run_underlying hd]

theorem checkKey_fit {P : Program} {e : Env} (he : Env.Ok P e) {t : TypeId} {i : TI} (hi : e.tyOf t = some i) {k : Value} (hk : keyFit e t i.desc k = true) (em : Bool) (w : World) : (Instr.checkKey em 10000 t k).run P w = .ok () w := by
  unfold keyFit at hk
  cases h1 : keyKind i.desc with
  | true => exact checkKey_plain (he.ty t i hi).1 h1 em k w
  | false =>
    rw [h1, cond_false] at hk
    cases h2 : isStructD i.desc with
    | false => rw [h2] at hk; cases hk
    | true => rw [h2, cond_true] at hk; exact he.keyOk t k hk em w

omit [Rho] in
theorem bytes_symm (a b : ByteArray) (h : (a == b) = true) : (b == a) = true := by
  obtain ⟨a⟩ := a
  obtain ⟨b⟩ := b
  have h1 : a = b := by
    have h2 : (a == b) = true := h
    exact eq_of_beq h2
  subst h1
  exact h

omit [Rho] in
theorem sameBits_key {d : TypeDesc} {k x : Value} (h : Instr.sameNow d k x = some true) : Instr.sameBits 10000 x k = true := by
  obtain ⟨n, hn⟩ : ∃ n, 10000 = n + 1 := ⟨9999, rfl⟩
  rw [hn]
  unfold Instr.sameNow at h
  split at h
  · split at h
    · rename_i hk
      injection h with h
      have := eq_of_beq h
      subst hk this
      simp [Instr.sameBits]
    · cases h
  · injection h with h
    simp only [Instr.sameBits]
    exact bytes_symm _ _ h
  · injection h with h
    have := eq_of_beq h
    subst this
    simp [Instr.sameBits]
  · cases h

theorem askA_rel {P : Program} {e : Env} (he : Env.Ok P e) {γ : Gam} {t : TypeId} {k : Value} : ∀ (es es' : List MapEntry) (i : Nat) (res : Option (Nat × Value)), ERel γ es es' → askA e t k es i = some res →
    (res = none ∧ ∀ w, (Instr.findAsking t k es' i).run P w = .ok none w) ∨ ∃ j v v' e e', res = some (i + j, v) ∧ VRel γ v v' ∧ es[j]? = some e ∧ es'[j]? = some e' ∧ e.val = v ∧ Instr.sameBits 10000 e'.key k = true ∧ ∀ w, (Instr.findAsking t k es' i).run P w = .ok (some (i + j, v')) w
  | [], [], i, res, _, h => by simp [askA] at h; subst h; exact .inl ⟨rfl, fun w => by simp [Instr.findAsking]⟩
  | [], _ :: _, _, _, h, _ => by have := h.1; simp at this
  | _ :: _, [], _, _, h, _ => by have := h.1; simp at this
  | x :: es, x' :: es', i, res, hr, h => by
    have h0 := hr.2 0 (by simp) (by simp)
    simp only [List.getElem_cons_zero] at h0
    have ht : ERel γ es es' := ⟨by have := hr.1; simpa using this, fun j h1 h2 => hr.2 (j + 1) (Nat.succ_lt_succ h1) (Nat.succ_lt_succ h2)⟩
    simp only [askA] at h
    cases hp : plain 8 x.key with
    | false => rw [hp] at h; cases h
    | true =>
      have hk := plain_eq γ 8 _ _ hp h0.1
      rw [hp, cond_true] at h
      split at h
      · rename_i hq
        cases hb : Instr.sameBits 10000 x.key k with
        | false => rw [hb] at h; cases h
        | true =>
          rw [hb, cond_true] at h
          injection h with h
          subst h
          exact .inr ⟨0, x.val, x'.val, x, x', rfl, h0.2.1, rfl, rfl, rfl, by rw [hk]; exact hb, fun w => by simp [Instr.findAsking, hk, he.keyEq t k x.key true hq w]⟩
      · rename_i hq
        rcases askA_rel he es es' (i + 1) res ht h with ⟨h1, h2⟩ | ⟨j, v, v', e, e', h1, h2, h3, h4, h5, h6, h7⟩
        · exact .inl ⟨h1, fun w => by simp [Instr.findAsking, hk, he.keyEq t k x.key false hq w, h2 w]⟩
        · have e : i + 1 + j = i + (j + 1) := by omega
          rw [e] at h1
          exact .inr ⟨j + 1, v, v', _, e', h1, h2, by simpa using h3, by simpa using h4, h5, h6, fun w => by simp [Instr.findAsking, hk, he.keyEq t k x.key false hq w, h7 w, e]⟩
      · cases h

theorem findA_rel {P : Program} {e : Env} (he : Env.Ok P e) {γ : Gam} {t : TypeId} {i : TI} (hi : e.tyOf t = some i) {k : Value} (hf : keyFit e t i.desc k = true) (es es' : List MapEntry) (res : Option (Nat × Value)) (hr : ERel γ es es') (h : findA e t i.desc k es = some res) :
    (res = none ∧ ∀ w, (Instr.findKey t k es').run P w = .ok none w) ∨ ∃ j v v' e e', res = some (j, v) ∧ VRel γ v v' ∧ es[j]? = some e ∧ es'[j]? = some e' ∧ e.val = v ∧ Instr.sameBits 10000 e'.key k = true ∧ ∀ w, (Instr.findKey t k es').run P w = .ok (some (j, v')) w := by
  unfold findA at h
  cases h1 : keyKind i.desc with
  | true =>
    rw [h1, cond_true] at h
    rcases findNow_rel es es' 0 res hr h with ⟨h2, h3⟩ | ⟨j, v, v', e1, e1', h2, h3, h4, h5, h6, h7, h8⟩
    · exact .inl ⟨h2, fun w => by simp [Instr.findKey, ok_underlying he hi, h3]⟩
    · simp only [Nat.zero_add] at h2 h8
      refine .inr ⟨j, v, v', e1, e1', h2, h3, h4, h5, h6, ?_, fun w => by simp [Instr.findKey, ok_underlying he hi, h8]⟩
      have hkey : e1'.key = e1.key := by
        obtain ⟨hj1, rfl⟩ := List.getElem?_eq_some_iff.1 h4
        obtain ⟨hj2, rfl⟩ := List.getElem?_eq_some_iff.1 h5
        exact sameNow_rel (hr.2 j hj1 hj2).1 h7
      rw [hkey]
      exact sameBits_key h7
  | false =>
    rw [h1, cond_false] at h
    unfold keyFit at hf
    rw [h1, cond_false] at hf
    have hs : isStructD i.desc = true := by
      cases h2 : isStructD i.desc with
      | true => rfl
      | false => rw [h2] at hf; cases hf
    have hd : ∃ fs, i.desc = .struct fs := by cases hd : i.desc <;> simp [hd, isStructD] at hs; exact ⟨_, rfl⟩
    obtain ⟨fs, hd⟩ := hd
    have hfind : ∀ w, (Instr.findKey t k es').run P w = (Instr.findAsking t k es' 0).run P w := by
      intro w
      cases es' with
      | nil => simp [Instr.findKey, ok_underlying he hi, hd, Instr.findNow, Instr.findAsking]
      | cons x xs => simp [Instr.findKey, ok_underlying he hi, hd, Instr.findNow, Instr.sameNow]
    rcases askA_rel he es es' 0 res hr h with ⟨h2, h3⟩ | ⟨j, v, v', e1, e1', h2, h3, h4, h5, h6, h7, h8⟩
    · exact .inl ⟨h2, fun w => by rw [hfind]; exact h3 w⟩
    · simp only [Nat.zero_add] at h2 h8
      exact .inr ⟨j, v, v', e1, e1', h2, h3, h4, h5, h6, h7, fun w => by rw [hfind]; exact h8 w⟩

def hLookup {β : Type} (e : Env) (T : Tm) (s : St) (t : TypeId) (m x : Operand) (ok : Bool) (k : K β) : Option β :=
  match e.tyOf t, aev T m, aev T x with
  | some i, some (.map (some b)), some kx => match i.desc, s.at b with
    | .map kt et, .map es _ => match e.tyOf kt, e.tyOf et with
      | some ik, some ie => cond (plain 8 kx) (cond (keyFit e kt ik.desc kx) (match findA e kt ik.desc kx es with
        | some (some (_, v)) => k (cond ok (.tuple #[v, .bool true]) v) s
        | some none => match ie.zero with
          | some z => cond (plain 8 z) (k (cond ok (.tuple #[z, .bool false]) z) s) none
          | none => none
        | none => none) none) none
      | _, _ => none
    | _, _ => none
  | _, _, _ => none

theorem hLookup_ok {β : Type} {P : Program} {e : Env} (he : Env.Ok P e) {T : Tm} {s : St} {o : Oper} {t : TypeId} {m x : Operand} {ok : Bool} {k : K β} {r : β} (ho : o.op = .lookup t m x ok) (h : hLookup e T s t m x ok k = some r) (hw : s.Wf) :
    ∃ v s', k v s' = some r ∧ Raw s s' ∧ HOk P o T s s' v := by
  unfold hLookup at h
  split at h
  case h_2 => cases h
  rename_i i b kx hi hm hx
  split at h
  case h_2 => cases h
  rename_i kt et es clock hd hb
  split at h
  case h_2 => cases h
  rename_i ik ie hik hie
  cases h1 : plain 8 kx with
  | false => simp only [h1, cond_false] at h; cases h
  | true =>
  cases h2 : keyFit e kt ik.desc kx with
  | false => simp only [h1, h2, cond_true, cond_false] at h; cases h
  | true =>
  simp only [h1, h2, cond_true] at h
  have common : ∀ {γ : Gam} {n : Nat} {a : Act} {w : World}, TRel γ T n a.tmps → Sat γ s.at w → ∃ B O C es', γ b = some (B, O, C) ∧ w.heap[B]? = some (.map es' clock) ∧ ERel γ es es'.toList ∧ a.eval m = .map (some B) ∧ a.eval x = kx := by
    intro γ n a w hT hS
    have hsb := hS.blk b
    rw [hb] at hsb
    obtain ⟨B, O, C, es', hg, ha, hr⟩ := hsb.map_inv
    have hmr := aev_rel hT hm
    generalize hm' : a.eval m = m' at hmr
    cases hmr with
    | map hg2 =>
      rw [hg] at hg2; cases hg2
      exact ⟨B, O, C, es', hg, ha, hr, rfl, plain_eq γ 8 _ _ h1 (aev_rel hT hx)⟩
  split at h
  · rename_i q v hf
    refine ⟨_, s, h, Raw.refl hw, fun γ n a w hT hS _ => ?_⟩
    obtain ⟨B, O, C, es', hg, ha, hr, hm', hx'⟩ := common hT hS
    have hu := ok_underlying he hi w
    rw [hd] at hu
    rcases findA_rel he hik h2 es es'.toList _ hr hf with ⟨h3, _⟩ | ⟨j, v1, v', e1, e1', h3, h4, h5, h6, h7, h8, h9⟩
    · cases h3
    · cases h3
      have hget : (getObj B).run P w = .ok (.map es' clock) w := by simp [getObj, Sem.run, ha]
      have hck := checkKey_fit he hik h2 es'.isEmpty w
      have hfk : (Instr.findKey kt kx es'.toList).run P w = .ok (some (_, v')) w := h9 w
      cases ok with
      | true =>
        have : VRel γ (.tuple [v, .bool true].toArray) (.tuple [v', .bool true].toArray) := VRel.tupleOf (.cons h4 (.cons (.bool true) (.nil γ)))
        exact ⟨γ, w, _, Step.refl hS, this, .inl (by simp [execOp, ho, Instr.lookup, hu, hm', hx', hget, hck, hfk])⟩
      | false => exact ⟨γ, w, _, Step.refl hS, h4, .inl (by simp [execOp, ho, Instr.lookup, hu, hm', hx', hget, hck, hfk])⟩
  · rename_i hf
    split at h
    case h_2 => cases h
    rename_i z hz
    cases h3 : plain 8 z with
    | false => simp only [h3, cond_false] at h; cases h
    | true =>
      simp only [h3, cond_true] at h
      refine ⟨_, s, h, Raw.refl hw, fun γ n a w hT hS _ => ?_⟩
      obtain ⟨B, O, C, es', hg, ha, hr, hm', hx'⟩ := common hT hS
      have hu := ok_underlying he hi w
      rw [hd] at hu
      rcases findA_rel he hik h2 es es'.toList _ hr hf with ⟨_, h9⟩ | ⟨j, v1, v', e1, e1', h4, _⟩
      · have hget : (getObj B).run P w = .ok (.map es' clock) w := by simp [getObj, Sem.run, ha]
        have hck := checkKey_fit he hik h2 es'.isEmpty w
        have hfk : (Instr.findKey kt kx es'.toList).run P w = .ok none w := h9 w
        have hzz := ok_zero he hie hz w
        cases ok with
        | true =>
          have : VRel γ (.tuple [z, .bool false].toArray) (.tuple [z, .bool false].toArray) := VRel.tupleOf (.cons (plain_rel γ 8 z h3) (.cons (.bool false) (.nil γ)))
          exact ⟨γ, w, _, Step.refl hS, this, .inl (by simp [execOp, ho, Instr.lookup, hu, hm', hx', hget, hck, hfk, hzz])⟩
        | false => exact ⟨γ, w, _, Step.refl hS, plain_rel γ 8 z h3, .inl (by simp [execOp, ho, Instr.lookup, hu, hm', hx', hget, hck, hfk, hzz])⟩
      · cases h4
  · cases h

def modL : List MapEntry → Nat → Value → Value → List MapEntry
  | [], _, _, _ => []
  | x :: es, 0, k, v => { x with key := k, val := v } :: es
  | x :: es, j + 1, k, v => x :: modL es j k v
omit [Rho] in
theorem modL_len : ∀ (es : List MapEntry) (j : Nat) (k v : Value), (modL es j k v).length = es.length
  | [], _, _, _ => rfl
  | x :: es, 0, k, v => rfl
  | x :: es, j + 1, k, v => by simp [modL, modL_len es j k v]
omit [Rho] in
theorem modL_get : ∀ (es : List MapEntry) (j : Nat) (k v : Value) (i : Nat) (h : i < (modL es j k v).length) (h' : i < es.length), (modL es j k v)[i] = if i = j then { es[i] with key := k, val := v } else es[i]
  | [], _, _, _, i, h, h' => by simp at h'
  | x :: es, 0, k, v, i, h, h' => by cases i <;> simp [modL]
  | x :: es, j + 1, k, v, i, h, h' => by
    cases i with
    | zero => simp [modL]
    | succ i => simp [modL, modL_get es j k v i (by simpa [modL] using h) (by simpa using h')]

def appE {β : Type} : List MapEntry → MapEntry → (List MapEntry → β) → β
  | [], x, k => k [x]
  | y :: es, x, k => appE es x fun r => k (y :: r)
omit [Rho] in
theorem appE_eq {β : Type} : ∀ (es : List MapEntry) (x : MapEntry) (k : List MapEntry → β), appE es x k = k (es ++ [x])
  | [], x, k => rfl
  | y :: es, x, k => by simp only [appE, appE_eq es x, List.cons_append]

def hUpdate {β : Type} (e : Env) (T : Tm) (s : St) (t : TypeId) (m x y : Operand) (k : K β) : Option β :=
  match e.tyOf t, aev T m, aev T x, aev T y with
  | some i, some (.map (some b)), some kx, some vx => match i.desc, s.at b with
    | .map kt _, .map es clock => match e.tyOf kt with
      | some ik => cond (plain 8 kx) (cond (keyFit e kt ik.desc kx) (cond (Nat.blt b s.next) (match findA e kt ik.desc kx es with
        | some (some (j, _)) => s.putK b (.map (modL es j kx vx) clock) fun s' => k undef s'
        | some none => appE es { key := kx, val := vx, born := clock } fun es' => forceNat (clock + 1) fun c' => s.putK b (.map es' c') fun s' => k undef s'
        | none => none) none) none) none
      | _ => none
    | _, _ => none
  | _, _, _, _ => none

theorem hUpdate_ok {β : Type} {P : Program} {e : Env} (he : Env.Ok P e) {T : Tm} {s : St} {o : Oper} {t : TypeId} {m x y : Operand} {k : K β} {r : β} (ho : o.op = .mapUpdate t m x y ∨ o.op = .insert t m x y)
    (h : hUpdate e T s t m x y k = some r) (hw : s.Wf) : ∃ v s', k v s' = some r ∧ Raw s s' ∧ HOk P o T s s' v := by
  unfold hUpdate at h
  split at h
  case h_2 => cases h
  rename_i i b kx vx hi hm hx hy
  split at h
  case h_2 => cases h
  rename_i kt et es clock hd hb
  split at h
  case h_2 => cases h
  rename_i ik hik
  cases h1 : plain 8 kx with
  | false => simp only [h1, cond_false] at h; cases h
  | true =>
  cases h2 : keyFit e kt ik.desc kx with
  | false => simp only [h1, h2, cond_true, cond_false] at h; cases h
  | true =>
  cases h3 : Nat.blt b s.next with
  | false => simp only [h1, h2, h3, cond_true, cond_false] at h; cases h
  | true =>
  simp only [h1, h2, h3, cond_true] at h
  have h3' : b < s.next := Nat.le_of_ble_eq_true h3
  have hsee := St.sees_of_at hb (by simp)
  have hexec : ∀ (a : Act) (w w' : World), (Instr.mapUpdate t (a.eval m) (a.eval x) (a.eval y)).run P w = .ok () w' → (execOp a.eval o).run P w = .ok .skip w' := by
    intro a w w' hr
    rcases ho with ho | ho <;> simp [execOp, ho, hr]
  have common : ∀ {γ : Gam} {n : Nat} {a : Act} {w : World}, TRel γ T n a.tmps → Sat γ s.at w → ∃ B O C es', γ b = some (B, O, C) ∧ w.heap[B]? = some (.map es' clock) ∧ ERel γ es es'.toList ∧ a.eval m = .map (some B) ∧ a.eval x = kx := by
    intro γ n a w hT hS
    have hsb := hS.blk b
    rw [hb] at hsb
    obtain ⟨B, O, C, es', hg, ha, hr⟩ := hsb.map_inv
    have hmr := aev_rel hT hm
    generalize hm' : a.eval m = m' at hmr
    cases hmr with
    | map hg2 =>
      rw [hg] at hg2; cases hg2
      exact ⟨B, O, C, es', hg, ha, hr, rfl, plain_eq γ 8 _ _ h1 (aev_rel hT hx)⟩
  have setHeap : ∀ {w : World} {B : Nat} {ob ob' : Obj}, w.heap[B]? = some ob → ({ w with heap := w.heap.setIfInBounds B ob' } : World).heap[B]? = some ob' := by
    intro w B ob ob' hB
    have := (Array.getElem?_eq_some_iff.1 hB).1
    simp [this]
  have setOther : ∀ {w : World} {B B' : Nat} {ob' : Obj}, B' ≠ B → ({ w with heap := w.heap.setIfInBounds B ob' } : World).heap[B']? = w.heap[B']? := by
    intro w B B' ob' hB
    simp [Array.getElem?_setIfInBounds, Ne.symm hB]
  split at h
  · rename_i j v0 hf
    obtain ⟨s', hk, hraw, hn, hat⟩ := St.putK_inv h hw hsee h3'
    refine ⟨_, s', hk, hraw, fun γ n a w hT hS _ => ?_⟩
    obtain ⟨B, O, C, es', hg, ha, hr, hm', hx'⟩ := common hT hS
    have hu := ok_underlying he hi w
    rw [hd] at hu
    rcases findA_rel he hik h2 es es'.toList _ hr hf with ⟨h4, _⟩ | ⟨j', v1, v', e1, e1', h4, h5, h6, h7, h8, h9, h10⟩
    · cases h4
    · injection h4 with h4
      cases h4
      have hget : (getObj B).run P w = .ok (.map es' clock) w := by simp [getObj, Sem.run, ha]
      have hck := checkKey_fit he hik h2 false w
      have hfk : (Instr.findKey kt kx es'.toList).run P w = .ok (some (j, v')) w := h10 w
      have hes : es'[j]? = some e1' := by simpa using h7
      have hstay : (Instr.keyThatStays e1'.key kx).run P w = .ok kx w := by simp [Instr.keyThatStays, h9]
      have hset : ∀ ob, (setObj B ob).run P w = .ok () { w with heap := w.heap.setIfInBounds B ob } := fun ob => by simp [setObj, Sem.run, ha]
      refine ⟨γ, { w with heap := w.heap.setIfInBounds B (.map (es'.modify j fun e => { e with key := kx, val := a.eval y }) clock) }, undef, ?_, .tuple _ _ rfl (fun i h1 _ => by simp at h1), .inr ⟨rfl, rfl, hexec a w _ ?_⟩⟩
      · rw [hn, hat]
        refine Step.ofPut hS (by rw [hb]; rfl) hg (by simp) (fun B' hB' => setOther hB') rfl rfl rfl ?_
        refine ⟨B, O, C, _, hg, setHeap ha, by rw [Array.size_modify, modL_len]; simpa using hr.1, fun q q1 q2 => ?_⟩
        have q1' : q < es.length := by rw [modL_len] at q1; exact q1
        have q2' : q < es'.size := by simpa using q2
        have hq := hr.2 q q1' (by simpa using q2')
        simp only [Array.getElem_toList] at hq
        rw [modL_get es j kx vx q q1 q1', Array.getElem_modify]
        by_cases hqj : q = j
        · subst hqj
          simp only [if_true]
          exact ⟨plain_rel γ 8 _ h1, aev_rel hT hy, hq.2.2⟩
        · simp only [if_neg hqj, if_neg (Ne.symm hqj)]
          exact hq
      · simp [Instr.mapUpdate, hu, hm', hx', hget, hck, hfk, hes, hstay, hset]
  · rename_i hf
    simp only [appE_eq, forceNat_eq] at h
    obtain ⟨s', hk, hraw, hn, hat⟩ := St.putK_inv h hw hsee h3'
    refine ⟨_, s', hk, hraw, fun γ n a w hT hS _ => ?_⟩
    obtain ⟨B, O, C, es', hg, ha, hr, hm', hx'⟩ := common hT hS
    have hu := ok_underlying he hi w
    rw [hd] at hu
    rcases findA_rel he hik h2 es es'.toList _ hr hf with ⟨_, h9⟩ | ⟨j, v1, v', e1, e1', h4, _⟩
    · have hget : (getObj B).run P w = .ok (.map es' clock) w := by simp [getObj, Sem.run, ha]
      have hck := checkKey_fit he hik h2 false w
      have hfk : (Instr.findKey kt kx es'.toList).run P w = .ok none w := h9 w
      have hset : ∀ ob, (setObj B ob).run P w = .ok () { w with heap := w.heap.setIfInBounds B ob } := fun ob => by simp [setObj, Sem.run, ha]
      refine ⟨γ, { w with heap := w.heap.setIfInBounds B (.map (es'.push { key := kx, val := a.eval y, born := clock }) (clock + 1)) }, undef, ?_, .tuple _ _ rfl (fun i h1 _ => by simp at h1), .inr ⟨rfl, rfl, hexec a w _ ?_⟩⟩
      · rw [hn, hat]
        refine Step.ofPut hS (by rw [hb]; rfl) hg (by simp) (fun B' hB' => setOther hB') rfl rfl rfl ?_
        have hlen : es'.size = es.length := by simpa using hr.1
        refine ⟨B, O, C, _, hg, setHeap ha, by simp [hlen], fun q q1 q2 => ?_⟩
        by_cases hq : q < es.length
        · have hq2 : q < es'.size := by omega
          have := hr.2 q hq (by simpa using hq2)
          simp only [Array.getElem_toList] at this
          rw [List.getElem_append_left hq, Array.getElem_push_lt hq2]
          exact this
        · have hqe : q = es.length := by simp at q1; omega
          subst hqe
          rw [List.getElem_append_right (Nat.le_refl _)]
          have hpe : (es'.push { key := kx, val := a.eval y, born := clock : MapEntry })[es.length]'q2 = { key := kx, val := a.eval y, born := clock } := by
            simp [Array.getElem_push, hlen]
          rw [hpe]
          simp only [Nat.sub_self, List.getElem_cons_zero]
          exact ⟨plain_rel γ 8 _ h1, aev_rel hT hy, trivial⟩
      · simp [Instr.mapUpdate, hu, hm', hx', hget, hck, hfk, hset]
    · cases h4
  · cases h

/-! ### slices beyond their lengths -/
def hSlice {β : Type} (e : Env) (T : Tm) (s : St) (t : TypeId) (x : Operand) (lo hi : Option Operand) (k : K β) : Option β :=
  match e.tyOf t, aev T x, optOp T lo, optOp T hi with
  | some i, some (.slice (some ⟨b, o, none⟩) _ c), some vlo, some vhi => match i.desc with
    | .slice el => match e.tyOf el, natOf vlo, natOf vhi, s.at b with
      | some te, some l, some (some h), .cells cs _ (some sz) _ => cond (Nat.beq sz te.size) (cond (Nat.beq te.size 0) none (cond (Nat.ble openCap c) (cond (Nat.beq o ((c - openCap) * te.size))
          (cond (Nat.ble (o + h * te.size) cs.length) (cond (Nat.blt (l.getD 0) h) (k (.slice (some ⟨b, o + l.getD 0 * te.size, none⟩) (h - l.getD 0) (c + l.getD 0)) s) none) none) none) none)) none
      | _, _, _, _ => none
    | _ => none
  | _, _, _, _ => none

theorem hSlice_ok {β : Type} {P : Program} {e : Env} (he : Env.Ok P e) {T : Tm} {s : St} {o : Oper} {t : TypeId} {x : Operand} {lo hi : Option Operand} {k : K β} {r : β} (ho : o.op = .slice t x lo hi none)
    (h : hSlice e T s t x lo hi k = some r) (hw : s.Wf) : ∃ v s', k v s' = some r ∧ Raw s s' ∧ HOk P o T s s' v := by
  unfold hSlice at h
  split at h
  case h_2 => cases h
  rename_i i b off n c vlo vhi hi' hx hlo hhi
  split at h
  case h_2 => cases h
  rename_i el hd
  split at h
  case h_2 => cases h
  rename_i te l hh cs t' sz ro hte hnlo hnhi hb
  cases h1 : Nat.beq sz te.size with
  | false => simp only [h1, cond_false] at h; cases h
  | true =>
  cases h2 : Nat.beq te.size 0 with
  | true => simp only [h1, h2, cond_true] at h; cases h
  | false =>
  cases h3 : Nat.ble openCap c with
  | false => simp only [h1, h2, h3, cond_true, cond_false] at h; cases h
  | true =>
  cases h4 : Nat.beq off ((c - openCap) * te.size) with
  | false => simp only [h1, h2, h3, h4, cond_true, cond_false] at h; cases h
  | true =>
  cases h5 : Nat.ble (off + hh * te.size) cs.length with
  | false => simp only [h1, h2, h3, h4, h5, cond_true, cond_false] at h; cases h
  | true =>
  cases h6 : Nat.blt (l.getD 0) hh with
  | false => simp only [h1, h2, h3, h4, h5, h6, cond_true, cond_false] at h; cases h
  | true =>
    simp only [h1, h2, h3, h4, h5, h6, cond_true, cond_false] at h
    have h1' := Nat.eq_of_beq_eq_true h1
    have h2' := Nat.ne_of_beq_eq_false h2
    have h3' := Nat.le_of_ble_eq_true h3
    have h4' := Nat.eq_of_beq_eq_true h4
    have h5' := Nat.le_of_ble_eq_true h5
    have h6' : l.getD 0 < hh := Nat.le_of_ble_eq_true h6
    subst h1'
    refine ⟨_, s, h, Raw.refl hw, fun γ m a w hT hS _ => ?_⟩
    obtain ⟨B, O, C, hg, hln, hx'⟩ := (aev_rel hT hx).slice_inv
    have hsb := hS.blk b
    rw [hb] at hsb
    obtain ⟨B', O', C', arr, hg', ha, hsz, hc, hr⟩ := hsb.cells_inv
    rw [hg] at hg'; cases hg'
    obtain ⟨hr1, hr2⟩ := hr te.size rfl
    have hcap : hh ≤ capOf C c := by
      rw [capOf_open h3']
      have q1 : ((c - openCap) + hh) * te.size ≤ C * te.size := by rw [Nat.add_mul]; omega
      have q2 := Nat.le_of_mul_le_mul_right q1 (Nat.pos_of_ne_zero h2')
      omega
    have hcap2 : capOf C (c + l.getD 0) = capOf C c - l.getD 0 := by rw [capOf_open h3', capOf_open (by omega)]; omega
    have hu := ok_underlying he hi' w
    rw [hd] at hu
    have hb2 : (Instr.sliceBounds true n (capOf C c) (lo.map a.eval) (hi.map a.eval) none).run P w = .ok (l.getD 0, hh, capOf C c) w := by
      rcases optOp_rel hT hhi hnhi with ⟨_, hx2⟩ | ⟨kh, jh, e2, hx2⟩
      · cases hx2
      · injection hx2 with hx2
        subst hx2
        rcases optOp_rel hT hlo hnlo with ⟨e1, rfl⟩ | ⟨kl, jl, e1, rfl⟩
        · simp [Instr.sliceBounds, e1, e2, bound_ok (P := P) (w := w) kh hh (capOf C c) .sliceAcap hcap]
        · simp only [Option.getD_some] at h6'
          simp [Instr.sliceBounds, e1, e2, bound_ok (P := P) (w := w) kh hh (capOf C c) .sliceAcap hcap, bound_ok (P := P) (w := w) kl jl hh .sliceB (Nat.le_of_lt h6')]
    have hv : VRel γ (.slice (some ⟨b, off + l.getD 0 * te.size, none⟩) (hh - l.getD 0) (c + l.getD 0)) (.slice (some ⟨B, O + (off + l.getD 0 * te.size), none⟩) (hh - l.getD 0) (capOf C (c + l.getD 0))) :=
      .slice _ _ _ hg (by rw [hcap2]; omega)
    refine ⟨γ, w, _, Step.refl hS, hv, .inl ?_⟩
    have hne : ¬ capOf C c = l.getD 0 := by omega
    simp only [execOp, ho, Instr.sliceAt, Sem.run_bind, hu, Result.andThen_ok, Instr.slice, hx', Option.map_none, hb2, ok_sizeOf he hte, Sem.run_pure, if_neg hne, Option.map_some, Addr.add_mid, hcap2, Nat.add_assoc]

/-! ### clear -/
def hClear {β : Type} (e : Env) (T : Tm) (s : St) (x : Operand) (t : TypeId) (k : K β) : Option β :=
  match e.tyOf t, aev T x with
  | some i, some (.slice (some ⟨b, o, none⟩) n _) => match i.desc with
    | .slice el => match e.tyOf el, s.at b with
      | some te, .cells cs t' room ro => match te.zero with
        | some z => cond ro none (cond (plain 8 z) (cond (Nat.beq z.cells.toList.length te.size) (cond (one' z.cells.toList) (cond (Nat.blt b s.next) (cond (Nat.beq n 0) none (cond (Nat.ble (o + n * te.size) cs.length)
            (setSegK cs o (zrep n z.cells.toList) fun cs' => s.putK b (.cells cs' t' room false) fun s' => k (.tuple #[]) s') none)) none) none) none) none)
        | none => none
      | _, _ => none
    | _ => none
  | some i, some (.slice _ 0 _) => match i.desc with
    | .slice _ => k (.tuple #[]) s
    | _ => none
  | some i, some (.map none) => match i.desc with
    | .map _ _ => k (.tuple #[]) s
    | _ => none
  | some i, some (.map (some b)) => match i.desc, s.at b with
    | .map _ _, .map _ clock => cond (Nat.blt b s.next) (s.putK b (.map [] clock) fun s' => k (.tuple #[]) s') none
    | _, _ => none
  | _, _ => none

omit [Rho] in
theorem one'_zrep {z : List Value} (h : one' z = true) : ∀ n, one' (zrep n z) = true := by
  intro n
  rw [one'_iff]
  induction n with
  | zero => intro v hv; cases hv
  | succ n ih => intro v hv; simp only [zrep, List.mem_append] at hv; rcases hv with hv | hv; exact (one'_iff z).1 h v hv; exact ih v hv

omit [Rho] in
theorem exec_clear {P : Program} {a : Act} {o : Oper} {x : Operand} {t : TypeId} (ho : o.op = .call ⟨.builtin .clear, #[x], #[t]⟩) {w w' : World} {v : Value}
    (h : (Builtin.clear_ #[t] o.type #[a.eval x]).run P w = .ok v w') : (execOp a.eval o).run P w = .ok (.value v) w' := by
  simp [execOp, ho, resolve, invoke, builtin, h]

theorem hClear_ok {β : Type} {P : Program} {e : Env} (he : Env.Ok P e) {T : Tm} {s : St} {o : Oper} {x : Operand} {t : TypeId} {k : K β} {r : β} (ho : o.op = .call ⟨.builtin .clear, #[x], #[t]⟩)
    (h : hClear e T s x t k = some r) (hw : s.Wf) : ∃ v s', k v s' = some r ∧ Raw s s' ∧ HOk P o T s s' v := by
  unfold hClear at h
  split at h
  · rename_i i b off n c hi hx
    split at h
    case h_2 => cases h
    rename_i el hd
    split at h
    case h_2 => cases h
    rename_i te cs t' room ro hte hb
    split at h
    case h_2 => cases h
    rename_i z hz
    cases hro : ro with
    | true => simp only [hro, cond_true] at h; cases h
    | false =>
    cases h1 : plain 8 z with
    | false => simp only [hro, h1, cond_false] at h; cases h
    | true =>
    cases h2 : Nat.beq z.cells.toList.length te.size with
    | false => simp only [hro, h1, h2, cond_true, cond_false] at h; cases h
    | true =>
    cases h3 : one' z.cells.toList with
    | false => simp only [hro, h1, h2, h3, cond_true, cond_false] at h; cases h
    | true =>
    cases h4 : Nat.blt b s.next with
    | false => simp only [hro, h1, h2, h3, h4, cond_true, cond_false] at h; cases h
    | true =>
    cases h5 : Nat.beq n 0 with
    | true => simp only [hro, h1, h2, h3, h4, h5, cond_true, cond_false] at h; cases h
    | false =>
    cases h6 : Nat.ble (off + n * te.size) cs.length with
    | false => simp only [hro, h1, h2, h3, h4, h5, h6, cond_true, cond_false] at h; cases h
    | true =>
      simp only [hro, h1, h2, h3, h4, h5, h6, cond_true, cond_false, setSegK_eq] at h
      have h2' := Nat.eq_of_beq_eq_true h2
      have h4' : b < s.next := Nat.le_of_ble_eq_true h4
      have h5' := Nat.ne_of_beq_eq_false h5
      have h6' := Nat.le_of_ble_eq_true h6
      obtain ⟨s', hk, hraw, hn, hat⟩ := St.putK_inv h hw (St.sees_of_at hb (by simp)) h4'
      refine ⟨_, s', hk, hraw, fun γ m a w hT hS hf => ?_⟩
      obtain ⟨B, O, C, hg, hln, hx'⟩ := (aev_rel hT hx).slice_inv
      have hsb := hS.blk b
      rw [hb] at hsb
      obtain ⟨B', O', C', arr, hg', ha, hsz, hc, hr⟩ := hsb.cells_inv
      rw [hg] at hg'; cases hg'
      have hu := ok_underlying he hi w
      rw [hd] at hu
      have hzs : z.cells.size = te.size := by simpa using h2'
      have hzl : (zrep n z.cells.toList).length = n * te.size := by rw [zrep_len, h2']
      have hzc : (Builtin.zeroCells z.cells n).toList = zrep n z.cells.toList := by
        unfold Builtin.zeroCells
        exact zrep_array n z.cells
      have hrel := zrep_rel (plain_rel γ 8 z h1).cells n
      have hst := run_storeCells_at P B (O + off) t' (zrep n z.cells.toList) 0 arr w ha (by rw [hzl]; omega) ((one'_iff _).1 (one'_zrep h3 n))
      simp only [Nat.add_zero] at hst
      refine ⟨γ, w.setRow B (arr.toList.take (O + off) ++ zrep n z.cells.toList ++ arr.toList.drop (O + off + (zrep n z.cells.toList).length)).toArray, _, ?_, .tuple #[] #[] rfl (fun i h1 _ => by simp at h1), .inl (exec_clear ho ?_)⟩
      · rw [hn, hat]
        exact Step.ofPut hS (by rw [hb, hro]; rfl) hg (by simp) (fun B' hB' => setRow_other w B B' _ hB') rfl rfl rfl (SatB.setSeg hg ha hsz hc hr hrel (by rw [hzl]; exact h6'))
      · obtain ⟨n', rfl⟩ : ∃ n', n = n' + 1 := ⟨n - 1, by omega⟩
        simp [Builtin.clear_, hx', hu, ok_zero he hte hz, hzc, hst]
  · rename_i i p c hi hx
    split at h
    case h_2 => cases h
    rename_i el hd
    refine ⟨_, s, h, Raw.refl hw, fun γ m a w hT hS hf => ?_⟩
    have hu := ok_underlying he hi w
    rw [hd] at hu
    have hr := aev_rel hT hx
    generalize hx' : a.eval x = x' at hr
    refine ⟨γ, w, _, Step.refl hS, .tuple #[] #[] rfl (fun i h1 _ => by simp at h1), .inl (exec_clear ho ?_)⟩
    cases hr <;> simp [Builtin.clear_, hx', hu]
  · rename_i i hi hx
    split at h
    case h_2 => cases h
    rename_i kt et hd
    refine ⟨_, s, h, Raw.refl hw, fun γ m a w hT hS hf => ?_⟩
    have hu := ok_underlying he hi w
    rw [hd] at hu
    have hr := aev_rel hT hx
    generalize hx' : a.eval x = x' at hr
    refine ⟨γ, w, _, Step.refl hS, .tuple #[] #[] rfl (fun i h1 _ => by simp at h1), .inl (exec_clear ho ?_)⟩
    cases hr
    simp [Builtin.clear_, hx', hu]
  · rename_i i b hi hx
    split at h
    case h_2 => cases h
    rename_i kt et es clock hd hb
    cases h1 : Nat.blt b s.next with
    | false => simp only [h1, cond_false] at h; cases h
    | true =>
      simp only [h1, cond_true] at h
      have h1' : b < s.next := Nat.le_of_ble_eq_true h1
      obtain ⟨s', hk, hraw, hn, hat⟩ := St.putK_inv h hw (St.sees_of_at hb (by simp)) h1'
      refine ⟨_, s', hk, hraw, fun γ m a w hT hS hf => ?_⟩
      have hu := ok_underlying he hi w
      rw [hd] at hu
      have hsb := hS.blk b
      rw [hb] at hsb
      obtain ⟨B, O, C, es', hg, ha, hr⟩ := hsb.map_inv
      have hmr := aev_rel hT hx
      generalize hx' : a.eval x = x' at hmr
      cases hmr with
      | map hg2 =>
        rw [hg] at hg2; cases hg2
        have hB := (Array.getElem?_eq_some_iff.1 ha).1
        refine ⟨γ, { w with heap := w.heap.setIfInBounds B (.map #[] clock) }, _, ?_, .tuple #[] #[] rfl (fun i h1 _ => by simp at h1), .inl (exec_clear ho ?_)⟩
        · rw [hn, hat]
          refine Step.ofPut hS (by rw [hb]; rfl) hg (by simp) (fun B' hB' => by simp [Array.getElem?_setIfInBounds, Ne.symm hB']) rfl rfl rfl ?_
          exact ⟨B, O, C, #[], hg, by simp [hB], rfl, fun i h1 _ => by simp at h1⟩
        · simp [Builtin.clear_, hx', hu, getObj, setObj, Sem.run, ha]
  · cases h

/-! ### delete -/
def delL : List MapEntry → Nat → List MapEntry
  | [], _ => []
  | _ :: es, 0 => es
  | x :: es, j + 1 => x :: delL es j
omit [Rho] in
theorem delL_eq : ∀ (es : List MapEntry) (j : Nat), delL es j = es.eraseIdx j
  | [], _ => rfl
  | _ :: _, 0 => rfl
  | x :: es, j + 1 => by simp [delL, delL_eq es j]
theorem ERel.erase {γ : Gam} {es es' : List MapEntry} (h : ERel γ es es') (j : Nat) : ERel γ (es.eraseIdx j) (es'.eraseIdx j) := by
  refine ⟨by simp only [List.length_eraseIdx, h.1], fun i h1 h2 => ?_⟩
  rw [List.getElem_eraseIdx, List.getElem_eraseIdx]
  have hl := h.1
  rw [List.length_eraseIdx] at h1 h2
  split
  · exact h.2 i (by split at h1 <;> omega) (by split at h2 <;> omega)
  · exact h.2 (i + 1) (by split at h1 <;> omega) (by split at h2 <;> omega)
def hDelete {β : Type} (e : Env) (T : Tm) (s : St) (x y : Operand) (t : TypeId) (k : K β) : Option β :=
  match e.tyOf t, aev T x, aev T y with
  | some i, some (.map (some b)), some kx => match i.desc, s.at b with
    | .map kt _, .map es clock => match e.tyOf kt with
      | some ik => cond (plain 8 kx) (cond (keyFit e kt ik.desc kx) (cond (Nat.blt b s.next) (match findA e kt ik.desc kx es with
        | some (some (j, _)) => s.putK b (.map (delL es j) clock) fun s' => k (.tuple #[]) s'
        | some none => s.putK b (.map es clock) fun s' => k (.tuple #[]) s'
        | none => none) none) none) none
      | _ => none
    | _, _ => none
  | _, _, _ => none
theorem hDelete_ok {β : Type} {P : Program} {e : Env} (he : Env.Ok P e) {T : Tm} {s : St} {o : Oper} {x y : Operand} {t tk : TypeId} {k : K β} {r : β} (ho : o.op = .call ⟨.builtin .delete, #[x, y], #[t, tk]⟩)
    (h : hDelete e T s x y t k = some r) (hw : s.Wf) : ∃ v s', k v s' = some r ∧ Raw s s' ∧ HOk P o T s s' v := by
  unfold hDelete at h
  split at h
  case h_2 => cases h
  rename_i i b kx hi hm hx
  split at h
  case h_2 => cases h
  rename_i kt et es clock hd hb
  split at h
  case h_2 => cases h
  rename_i ik hik
  cases h1 : plain 8 kx with
  | false => simp only [h1, cond_false] at h; cases h
  | true =>
  cases h2 : keyFit e kt ik.desc kx with
  | false => simp only [h1, h2, cond_true, cond_false] at h; cases h
  | true =>
  cases h3 : Nat.blt b s.next with
  | false => simp only [h1, h2, h3, cond_true, cond_false] at h; cases h
  | true =>
  simp only [h1, h2, h3, cond_true] at h
  have h3' : b < s.next := Nat.le_of_ble_eq_true h3
  have hsee := St.sees_of_at hb (by simp)
  have hexec : ∀ (a : Act) (w w' : World) (v : Value), (Builtin.delete_ #[t, tk] o.type #[a.eval x, a.eval y]).run P w = .ok v w' → (execOp a.eval o).run P w = .ok (.value v) w' := by
    intro a w w' v hr
    simp [execOp, ho, resolve, invoke, builtin, hr]
  have common : ∀ {γ : Gam} {n : Nat} {a : Act} {w : World}, TRel γ T n a.tmps → Sat γ s.at w → ∃ B O C es', γ b = some (B, O, C) ∧ w.heap[B]? = some (.map es' clock) ∧ ERel γ es es'.toList ∧ a.eval x = .map (some B) ∧ a.eval y = kx := by
    intro γ n a w hT hS
    have hsb := hS.blk b
    rw [hb] at hsb
    obtain ⟨B, O, C, es', hg, ha, hr⟩ := hsb.map_inv
    have hmr := aev_rel hT hm
    generalize hm' : a.eval x = m' at hmr
    cases hmr with
    | map hg2 =>
      rw [hg] at hg2; cases hg2
      exact ⟨B, O, C, es', hg, ha, hr, rfl, plain_eq γ 8 _ _ h1 (aev_rel hT hx)⟩
  have setHeap : ∀ {w : World} {B : Nat} {ob ob' : Obj}, w.heap[B]? = some ob → ({ w with heap := w.heap.setIfInBounds B ob' } : World).heap[B]? = some ob' := by
    intro w B ob ob' hB
    have := (Array.getElem?_eq_some_iff.1 hB).1
    simp [this]
  have setOther : ∀ {w : World} {B B' : Nat} {ob' : Obj}, B' ≠ B → ({ w with heap := w.heap.setIfInBounds B ob' } : World).heap[B']? = w.heap[B']? := by
    intro w B B' ob' hB
    simp [Array.getElem?_setIfInBounds, Ne.symm hB]
  have satMap : ∀ {γ : Gam} {w : World} {B O C : Nat} {ob : Obj} {l : List MapEntry} {l' : Array MapEntry}, γ b = some (B, O, C) → w.heap[B]? = some ob → ERel γ l l'.toList →
      SatB γ { w with heap := w.heap.setIfInBounds B (.map l' clock) } b (.map l clock) := by
    intro γ w B O C ob l l' hg ha hr
    exact ⟨B, O, C, l', hg, setHeap ha, by have := hr.1; simp only [Array.length_toList] at this; first | exact this | exact this.symm, fun q q1 q2 => by
      have := hr.2 q q1 (by simpa using q2)
      simp only [Array.getElem_toList] at this
      exact this⟩
  split at h
  · rename_i j v0 hf
    obtain ⟨s', hk, hraw, hn, hat⟩ := St.putK_inv h hw hsee h3'
    refine ⟨_, s', hk, hraw, fun γ n a w hT hS _ => ?_⟩
    obtain ⟨B, O, C, es', hg, ha, hr, hm', hx'⟩ := common hT hS
    have hu := ok_underlying he hi w
    rw [hd] at hu
    rcases findA_rel he hik h2 es es'.toList _ hr hf with ⟨h4, _⟩ | ⟨j', v1, v', e1, e1', h4, h5, h6, h7, h8, h9, h10⟩
    · cases h4
    · injection h4 with h4
      cases h4
      have hget : (getObj B).run P w = .ok (.map es' clock) w := by simp [getObj, Sem.run, ha]
      have hck := checkKey_fit he hik h2 es'.isEmpty w
      have hfk : (Instr.findKey kt kx es'.toList).run P w = .ok (some (j, v')) w := h10 w
      have hset : ∀ ob, (setObj B ob).run P w = .ok () { w with heap := w.heap.setIfInBounds B ob } := fun ob => by simp [setObj, Sem.run, ha]
      refine ⟨γ, { w with heap := w.heap.setIfInBounds B (.map (es'.eraseIdxIfInBounds j) clock) }, .tuple #[], ?_, .tuple _ _ rfl (fun i h1 _ => by simp at h1), .inl (hexec a w _ _ ?_)⟩
      · rw [hn, hat]
        refine Step.ofPut hS (by rw [hb]; rfl) hg (by simp) (fun B' hB' => setOther hB') rfl rfl rfl (satMap hg ha ?_)
        have e3 : (es'.eraseIdxIfInBounds j).toList = es'.toList.eraseIdx j := by simp
        rw [e3, delL_eq]
        exact hr.erase j
      · simp [Builtin.delete_, hu, hm', hx', hget, hck, hfk, hset]
  · rename_i hf
    obtain ⟨s', hk, hraw, hn, hat⟩ := St.putK_inv h hw hsee h3'
    refine ⟨_, s', hk, hraw, fun γ n a w hT hS _ => ?_⟩
    obtain ⟨B, O, C, es', hg, ha, hr, hm', hx'⟩ := common hT hS
    have hu := ok_underlying he hi w
    rw [hd] at hu
    rcases findA_rel he hik h2 es es'.toList _ hr hf with ⟨_, h10⟩ | ⟨j', v1, v', e1, e1', h4, _⟩
    · have hget : (getObj B).run P w = .ok (.map es' clock) w := by simp [getObj, Sem.run, ha]
      have hck := checkKey_fit he hik h2 es'.isEmpty w
      have hfk : (Instr.findKey kt kx es'.toList).run P w = .ok none w := h10 w
      have hset : ∀ ob, (setObj B ob).run P w = .ok () { w with heap := w.heap.setIfInBounds B ob } := fun ob => by simp [setObj, Sem.run, ha]
      refine ⟨γ, { w with heap := w.heap.setIfInBounds B (.map es' clock) }, .tuple #[], ?_, .tuple _ _ rfl (fun i h1 _ => by simp at h1), .inl (hexec a w _ _ ?_)⟩
      · rw [hn, hat]
        exact Step.ofPut hS (by rw [hb]; rfl) hg (by simp) (fun B' hB' => setOther hB') rfl rfl rfl (satMap hg ha hr)
      · simp [Builtin.delete_, hu, hm', hx', hget, hck, hfk, hset]
    · cases h4
  · cases h

/-- All operations that touch memory and call no function. -/
def heapOp {β : Type} (e : Env) (T : Tm) (s : St) (op : Op) (k : K β) : Option β :=
  match op with
  | .alloc t => hAlloc e s t k
  | .box t x => hBox T s t x k
  | .buildSlice t n ps => hBuildSlice e T s t n ps k
  | .load t x => hLoad e T s t x k
  | .store t x y => hStore e T s t x y k
  | .makeSlice t l c => hMakeSlice e T s t l c k
  | .makeMap _ r => hMakeMap s r k
  | .lookup t m x ok => hLookup e T s t m x ok k
  | .mapUpdate t m x y | .insert t m x y => hUpdate e T s t m x y k
  | .call ⟨.builtin .append, ⟨[x, y]⟩, ⟨[t, tx]⟩⟩ => hAppend e T s x y t tx k
  | .call ⟨.builtin .copy, ⟨[x, y]⟩, ⟨[t, _]⟩⟩ => hCopy e T s x y t k
  | .call ⟨.builtin .clear, ⟨[x]⟩, ⟨[t]⟩⟩ => hClear e T s x t k
  | .call ⟨.builtin .delete, ⟨[x, y]⟩, ⟨[t, _]⟩⟩ => hDelete e T s x y t k
  | .slice t x lo hi none => hSlice e T s t x lo hi k
  | _ => none

def keyOf : Op → Option (Key × List Operand)
  | .binOp op t x y _ => some (.bin op t, [x, y])
  | .unOp op _ x => some (.un op, [x])
  | .convert s d x => some (.conv s d, [x])
  | .fieldAddr s x f => some (.fieldAddr s f, [x])
  | .field t x f => some (.field t f, [x])
  | .indexAddr t x i => some (.indexAddr t, [x, i])
  | .index t x i => some (.index t, [x, i])
  | .extract t i => some (.extract i, [t])
  | .load t a => some (.load t, [a])
  | .call ⟨.builtin .len, args, tys⟩ => some (.bi 0 tys.toList, args.toList)
  | .call ⟨.builtin .cap, args, tys⟩ => some (.bi 1 tys.toList, args.toList)
  | .call ⟨.builtin .max, args, tys⟩ => some (.bi 2 tys.toList, args.toList)
  | .call ⟨.builtin .min, args, tys⟩ => some (.bi 3 tys.toList, args.toList)
  | _ => none
def symOp (e : Env) (T : Tm) (op : Op) : Option Value := match keyOf op with
  | some (k, xs) => match aevs T xs with
    | some vs => e.look k vs
    | none => none
  | none => none

theorem symOp_ok {P : Program} {e : Env} (he : Env.Ok P e) {T : Tm} {o : Oper} {v : Value} (h : symOp e T o.op = some v) {γ : Gam} {n : Nat} {a : Act} (hT : TRel γ T n a.tmps) {w : World} (hm : MemOk w) :
    ∃ v', VRel γ v v' ∧ (execOp a.eval o).run P w = .ok (.value v') w := by
  obtain ⟨dst, op, type, pos, after, guard⟩ := o
  simp only at h
  unfold symOp at h
  split at h
  case h_2 => cases h
  rename_i k xs hk
  split at h
  case h_2 => cases h
  rename_i vs hvs
  obtain ⟨h1, h2, h3⟩ := he.look k vs v h
  have hr := aevs_rel hT hvs
  have hq := closed_eqs γ 3 vs _ h1 hr
  have h4 := h3 w hm
  rw [← hq] at h4
  refine ⟨_, closed_rel γ 3 v h2, ?_⟩
  unfold keyOf at hk
  split at hk <;> first
    | (injection hk with hk
       injection hk with hk1 hk2
       subst hk1 hk2
       first
         | (have := h4; simp only [KeyOk, List.map_cons, List.map_nil] at this; simp only [execOp, Sem.run_bind, this, Result.andThen_ok, Sem.run_pure]; done)
         | (rename_i op t x y yt; have := h4; simp only [KeyOk, List.map_cons, List.map_nil] at this; obtain ⟨q1, q2⟩ := this x y; simp only [execOp, Sem.run_bind, q1, q2, Result.andThen_ok, Sem.run_pure]; done)
         | (rename_i args tys
            have e1 : (List.map a.eval args.toList).toArray = args.map a.eval := by rw [← Array.toList_map]
            have h5 := h4
            unfold KeyOk at h5
            simp only [e1, Array.toArray_toList] at h5
            simp [execOp, resolve, invoke, builtin, h5]
            done))
    | (cases hk; done)

/-! ### a lookup by a symbol -/
def isIntD : TypeDesc → Bool
  | .int _ => true
  | _ => false
def findQ (e : Env) (sy : Nat) : List MapEntry → Nat → Option (Option (Nat × Value))
  | [], _ => some none
  | x :: es, i => match x.key with
    | .int .i64 m => match e.keq sy m with
      | some true => some (some (i, x.val))
      | some false => findQ e sy es (i + 1)
      | none => none
    | _ => none
theorem findQ_rel {P : Program} {e : Env} (he : Env.Ok P e) {γ : Gam} {d : TypeDesc} (hd : isIntD d = true) {sy : Nat} : ∀ (es es' : List MapEntry) (i : Nat) (res : Option (Nat × Value)), ERel γ es es' → findQ e sy es i = some res →
    (res = none ∧ Instr.findNow d (Rho.val sy) es' i = some none) ∨ ∃ j v v', res = some (j, v) ∧ VRel γ v v' ∧ Instr.findNow d (Rho.val sy) es' i = some (some (j, v'))
  | [], [], i, res, _, h => by simp [findQ] at h; subst h; exact .inl ⟨rfl, rfl⟩
  | [], _ :: _, _, _, h, _ => by have := h.1; simp at this
  | _ :: _, [], _, _, h, _ => by have := h.1; simp at this
  | x :: es, x' :: es', i, res, hr, h => by
    have h0 := hr.2 0 (by simp) (by simp)
    simp only [List.getElem_cons_zero] at h0
    have ht : ERel γ es es' := ⟨by have := hr.1; simpa using this, fun j h1 h2 => hr.2 (j + 1) (Nat.succ_lt_succ h1) (Nat.succ_lt_succ h2)⟩
    have hd' : ∃ q, d = .int q := by cases d <;> simp [isIntD] at hd; exact ⟨_, rfl⟩
    obtain ⟨q, rfl⟩ := hd'
    simp only [findQ] at h
    split at h
    case h_2 => cases h
    rename_i m hm
    have hk : x'.key = .int .i64 m := by
      have := h0.1
      rw [hm] at this
      exact this.int_inv
    split at h
    · rename_i hq
      injection h with h
      subst h
      obtain ⟨n, h1, h2⟩ := he.keq sy m true hq
      refine .inr ⟨i, x.val, x'.val, rfl, h0.2.1, ?_⟩
      simp [Instr.findNow, Instr.sameNow, hk, h1, h2]
    · rename_i hq
      obtain ⟨n, h1, h2⟩ := he.keq sy m false hq
      have ih := findQ_rel he hd es es' (i + 1) res ht h
      have e1 : Instr.findNow (.int q) (Rho.val sy) (x' :: es') i = Instr.findNow (.int q) (Rho.val sy) es' (i + 1) := by
        simp [Instr.findNow, Instr.sameNow, hk, h1, h2]
      rw [e1]
      exact ih
    · cases h

def hLookupQ {β : Type} (e : Env) (T : Tm) (s : St) (t : TypeId) (m : Operand) (sy : Nat) (ok : Bool) (k : K β) : Option β :=
  match e.tyOf t, aev T m with
  | some i, some (.map (some b)) => match i.desc, s.at b with
    | .map kt et, .map es _ => match e.tyOf kt, e.tyOf et with
      | some ik, some ie => cond (isIntD ik.desc) (match findQ e sy es 0 with
        | some (some (_, v)) => k (cond ok (.tuple #[v, .bool true]) v) s
        | some none => match ie.zero with
          | some z => cond (plain 8 z) (k (cond ok (.tuple #[z, .bool false]) z) s) none
          | none => none
        | none => none) none
      | _, _ => none
    | _, _ => none
  | _, _ => none
theorem hLookupQ_ok {β : Type} {P : Program} {e : Env} (he : Env.Ok P e) {T : Tm} {s : St} {o : Oper} {t : TypeId} {m x : Operand} {sy : Nat} {ok : Bool} {k : K β} {r : β} (ho : o.op = .lookup t m x ok) (hx : aev T x = some (.chan (some sy)))
    (h : hLookupQ e T s t m sy ok k = some r) (hw : s.Wf) : ∃ v s', k v s' = some r ∧ Raw s s' ∧ HOk P o T s s' v := by
  unfold hLookupQ at h
  split at h
  case h_2 => cases h
  rename_i i b hi hm
  split at h
  case h_2 => cases h
  rename_i kt et es clock hd hb
  split at h
  case h_2 => cases h
  rename_i ik ie hik hie
  cases h2 : isIntD ik.desc with
  | false => simp only [h2, cond_false] at h; cases h
  | true =>
  simp only [h2, cond_true] at h
  have hkk : keyKind ik.desc = true := by cases hq : ik.desc <;> simp [hq, isIntD] at h2; rfl
  have common : ∀ {γ : Gam} {n : Nat} {a : Act} {w : World}, TRel γ T n a.tmps → Sat γ s.at w → ∃ B O C es', γ b = some (B, O, C) ∧ w.heap[B]? = some (.map es' clock) ∧ ERel γ es es'.toList ∧ a.eval m = .map (some B) ∧ a.eval x = Rho.val sy := by
    intro γ n a w hT hS
    have hsb := hS.blk b
    rw [hb] at hsb
    obtain ⟨B, O, C, es', hg, ha, hr⟩ := hsb.map_inv
    have hmr := aev_rel hT hm
    have hxr := aev_rel hT hx
    have hx' : a.eval x = Rho.val sy := by generalize a.eval x = v at hxr; cases hxr; rfl
    generalize hm' : a.eval m = m' at hmr
    cases hmr with
    | map hg2 =>
      rw [hg] at hg2; cases hg2
      exact ⟨B, O, C, es', hg, ha, hr, rfl, hx'⟩
  have hck := fun (v : Value) (em : Bool) (w : World) => checkKey_plain (he.ty kt ik hik).1 hkk em v w
  split at h
  · rename_i q v hf
    refine ⟨_, s, h, Raw.refl hw, fun γ n a w hT hS _ => ?_⟩
    obtain ⟨B, O, C, es', hg, ha, hr, hm', hx'⟩ := common hT hS
    have hu := ok_underlying he hi w
    rw [hd] at hu
    rcases findQ_rel he h2 es es'.toList 0 _ hr hf with ⟨h3, _⟩ | ⟨j, v1, v', h3, h4, h9⟩
    · cases h3
    · cases h3
      have hget : (getObj B).run P w = .ok (.map es' clock) w := by simp [getObj, Sem.run, ha]
      have hfk : (Instr.findKey kt (Rho.val sy) es'.toList).run P w = .ok (some (q, v')) w := by simp [Instr.findKey, ok_underlying he hik, h9]
      cases ok with
      | true =>
        have : VRel γ (.tuple [v, .bool true].toArray) (.tuple [v', .bool true].toArray) := VRel.tupleOf (.cons h4 (.cons (.bool true) (.nil γ)))
        exact ⟨γ, w, _, Step.refl hS, this, .inl (by simp [execOp, ho, Instr.lookup, hu, hm', hx', hget, hck, hfk])⟩
      | false => exact ⟨γ, w, _, Step.refl hS, h4, .inl (by simp [execOp, ho, Instr.lookup, hu, hm', hx', hget, hck, hfk])⟩
  · rename_i hf
    split at h
    case h_2 => cases h
    rename_i z hz
    cases h3 : plain 8 z with
    | false => simp only [h3, cond_false] at h; cases h
    | true =>
      simp only [h3, cond_true] at h
      refine ⟨_, s, h, Raw.refl hw, fun γ n a w hT hS _ => ?_⟩
      obtain ⟨B, O, C, es', hg, ha, hr, hm', hx'⟩ := common hT hS
      have hu := ok_underlying he hi w
      rw [hd] at hu
      rcases findQ_rel he h2 es es'.toList 0 _ hr hf with ⟨_, h9⟩ | ⟨j, v1, v', h4, _⟩
      · have hget : (getObj B).run P w = .ok (.map es' clock) w := by simp [getObj, Sem.run, ha]
        have hfk : (Instr.findKey kt (Rho.val sy) es'.toList).run P w = .ok none w := by simp [Instr.findKey, ok_underlying he hik, h9]
        have hzz := ok_zero he hie hz w
        cases ok with
        | true =>
          have : VRel γ (.tuple [z, .bool false].toArray) (.tuple [z, .bool false].toArray) := VRel.tupleOf (.cons (plain_rel γ 8 z h3) (.cons (.bool false) (.nil γ)))
          exact ⟨γ, w, _, Step.refl hS, this, .inl (by simp [execOp, ho, Instr.lookup, hu, hm', hx', hget, hck, hfk, hzz])⟩
        | false => exact ⟨γ, w, _, Step.refl hS, plain_rel γ 8 z h3, .inl (by simp [execOp, ho, Instr.lookup, hu, hm', hx', hget, hck, hfk, hzz])⟩
      · cases h4
  · cases h

def lstPut (T : Tm) (op : Op) : Option (Nat × Nat × TypeId × Operand) := match op with
  | .store t x y => match aev T x with
    | some (.pointer (some ⟨id, r, some 3⟩)) => some (id, r, t, y)
    | _ => none
  | _ => none
def lstMake (T : Tm) (op : Op) : Option (TypeId × Nat) := match op with
  | .makeSlice t x y => match aev T x, aev T y with
    | some (.chan (some a)), some (.chan (some b)) => cond (Nat.beq a b) (some (t, a)) none
    | _, _ => none
  | _ => none
def keyQ (T : Tm) (op : Op) : Option (TypeId × Operand × Nat × Bool) := match op with
  | .lookup t m x ok => match aev T x with
    | some (.chan (some a)) => some (t, m, a, ok)
    | _ => none
  | _ => none

/-- An append to a list. -/
def lstArg (T : Tm) (op : Op) : Option (Nat × Nat × Operand × TypeId × TypeId) := match op with
  | .call ⟨.builtin .append, ⟨[x, y]⟩, ⟨[t, tx]⟩⟩ => match aev T x with
    | some (.pointer (some ⟨id, sy, some 2⟩)) => some (id, sy, y, t, tx)
    | _ => none
  | _ => none
def heapSym {β : Type} (e : Env) (T : Tm) (s : St) (op : Op) (k : K β) : Option β := match lstOp e T s op with
  | some v => k v s
  | none => match lstArg T op with
    | some (id, sy, y, t, tx) => lAppend e T s id sy y t tx k
    | none => match symOp e T op with
      | some v => k v s
      | none => match lstPut T op with
        | some (id, r, t, y) => lStore e T s id r t y k
        | none => match lstMake T op with
          | some (t, a) => lMake e s a t k
          | none => match keyQ T op with
            | some (t, m, a, ok) => hLookupQ e T s t m a ok k
            | none => heapOp e T s op k
def heapS {β : Type} (e : Env) (T : Tm) (s : St) (op : Op) (k : K β) : Option β := cond e.on (heapSym e T s op k) (heapOp e T s op k)

theorem heapOp_ok {β : Type} {P : Program} {e : Env} (he : Env.Ok P e) {T : Tm} {s : St} {o : Oper} {k : K β} {r : β} (h : heapOp e T s o.op k = some r) (hw : s.Wf) :
    ∃ v s', k v s' = some r ∧ Raw s s' ∧ HOk P o T s s' v := by
  obtain ⟨dst, op, type, pos, after, guard⟩ := o
  simp only at h
  unfold heapOp at h
  split at h
  · exact hAlloc_ok he rfl h hw
  · exact hBox_ok rfl h hw
  · exact hBuildSlice_ok he rfl h hw
  · exact hLoad_ok he rfl h hw
  · exact hStore_ok he rfl h hw
  · exact hMakeSlice_ok he rfl h hw
  · exact hMakeMap_ok rfl h hw
  · exact hLookup_ok he rfl h hw
  · exact hUpdate_ok he (.inl rfl) h hw
  · exact hUpdate_ok he (.inr rfl) h hw
  · exact hAppend_ok he rfl h hw
  · exact hCopy_ok he rfl h hw
  · exact hClear_ok he rfl h hw
  · exact hDelete_ok he rfl h hw
  · exact hSlice_ok he rfl h hw
  · cases h
theorem heapS_ok {β : Type} {P : Program} {e : Env} (he : Env.Ok P e) {T : Tm} {s : St} {o : Oper} {k : K β} {r : β} (h : heapS e T s o.op k = some r) (hw : s.Wf) :
    ∃ v s', k v s' = some r ∧ Raw s s' ∧ HOk P o T s s' v := by
  unfold heapS at h
  cases hon : e.on with
  | false => rw [hon, cond_false] at h; exact heapOp_ok he h hw
  | true =>
    rw [hon, cond_true] at h
    unfold heapSym at h
    split at h
    · rename_i v hv
      refine ⟨v, s, h, Raw.refl hw, fun γ n a w hT hS _ => ?_⟩
      obtain ⟨v', h1, h2⟩ := lstOp_ok he hv hT hS
      exact ⟨γ, w, v', Step.refl hS, h1, .inl h2⟩
    · split at h
      · rename_i id sy y t tx hla
        obtain ⟨dst, op, type, pos, after, guard⟩ := o
        simp only at h hla
        unfold lstArg at hla
        split at hla
        · split at hla
          · rename_i hx
            injection hla with hla
            cases hla
            exact lAppend_ok he rfl hx h hw
          · cases hla
        · cases hla
      · split at h
        · rename_i v hv
          refine ⟨v, s, h, Raw.refl hw, fun γ n a w hT hS _ => ?_⟩
          obtain ⟨v', h1, h2⟩ := symOp_ok he hv hT hS.frz.ok
          exact ⟨γ, w, v', Step.refl hS, h1, .inl h2⟩
        · obtain ⟨dst, op, type, pos, after, guard⟩ := o
          simp only at h
          split at h
          · rename_i id r' t y hla
            unfold lstPut at hla
            split at hla
            · split at hla
              · rename_i hx
                injection hla with hla
                cases hla
                exact lStore_ok he rfl hx h hw
              · cases hla
            · cases hla
          · split at h
            · rename_i t a' hla
              unfold lstMake at hla
              split at hla
              · split at hla
                · rename_i a1 b1 hx hy
                  cases hab : Nat.beq a1 b1 with
                  | false => rw [hab] at hla; cases hla
                  | true =>
                    rw [hab, cond_true] at hla
                    injection hla with hla
                    cases hla
                    have := Nat.eq_of_beq_eq_true hab
                    subst this
                    exact lMake_ok he rfl hx hy h hw
                · cases hla
              · cases hla
            · split at h
              · rename_i t m a' ok hla
                unfold keyQ at hla
                split at hla
                · split at hla
                  · rename_i hx
                    injection hla with hla
                    cases hla
                    exact hLookupQ_ok he rfl hx h hw
                  · cases hla
                · cases hla
              · exact heapOp_ok he (o := ⟨dst, op, type, pos, after, guard⟩) h hw
end Go.Ev
