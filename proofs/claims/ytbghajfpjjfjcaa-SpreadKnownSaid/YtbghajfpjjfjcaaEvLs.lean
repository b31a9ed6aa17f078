/- An evaluator of closed Go code, part 11b: lists whose contents are what symbols say. -/
import Derived.Test.YtbghajfpjjfjcaaEvK
set_option linter.unusedSimpArgs false
set_option linter.unusedVariables false
namespace Go.Ev
open Go Go.RowKit
variable [Rho]

/-! ### entries -/
def sameL (f : Value → Value → Bool) : List Value → List Value → Bool
  | [], [] => true
  | a :: as, b :: bs => cond (f a b) (sameL f as bs) false
  | _, _ => false
omit [Rho] in
theorem sameL_eq {f : Value → Value → Bool} (hf : ∀ a b, f a b = true → a = b) : ∀ (l m : List Value), sameL f l m = true → l = m
  | [], [], _ => rfl
  | [], _ :: _, h => nomatch h
  | _ :: _, [], h => nomatch h
  | a :: as, b :: bs, h => by
    simp only [sameL] at h
    cases h1 : f a b with
    | false => rw [h1] at h; cases h
    | true => rw [h1, cond_true] at h; rw [hf a b h1, sameL_eq hf as bs h]
def sameB : Bool → Bool → Bool
  | true, true | false, false => true
  | _, _ => false
def sameV : Nat → Value → Value → Bool
  | 0, _, _ => false
  | n + 1, a, b => match a, b with
    | .int k m, .int k' m' => cond (sameK k k') (eqI m m') false
    | .bool a, .bool b => sameB a b
    | .chan (some s), .chan (some t) => Nat.beq s t
    | .string a, .string b => a == b
    | .slice none n c, .slice none m d => cond (Nat.beq n m) (Nat.beq c d) false
    | .pointer none, .pointer none | .nilFunc, .nilFunc | .nilIface, .nilIface => true
    | .agg a, .agg b | .tuple a, .tuple b => sameL (sameV n) a.toList b.toList
    | .func (.func f) x y, .func (.func g) x1 y1 => cond (Nat.beq f g) (cond (sameL (sameV n) x.toList x1.toList) (sameL (sameV n) y.toList y1.toList) false) false
    | _, _ => false
omit [Rho] in
theorem sameV_eq : ∀ (n : Nat) (a b : Value), sameV n a b = true → a = b
  | 0, _, _, h => nomatch h
  | n + 1, a, b, h => by
    have ih := sameV_eq n
    unfold sameV at h
    split at h
    · rename_i k m k' m'
      cases hk : sameK k k' with
      | false => rw [hk] at h; cases h
      | true =>
        rw [hk, cond_true, eqI_eq] at h
        rw [sameK_eq hk, eq_of_beq h]
    · rename_i a b
      cases a <;> cases b <;> first | rfl | cases h
    · rw [Nat.eq_of_beq_eq_true h]
    · rename_i a b
      have : a = b := by
        obtain ⟨a⟩ := a
        obtain ⟨b⟩ := b
        have h2 : (a == b) = true := h
        rw [eq_of_beq h2]
      rw [this]
    · rename_i n c m d
      cases hn : Nat.beq n m with
      | false => rw [hn] at h; cases h
      | true =>
        rw [hn, cond_true] at h
        rw [Nat.eq_of_beq_eq_true hn, Nat.eq_of_beq_eq_true h]
    · rfl
    · rfl
    · rfl
    · rename_i a b
      have := sameL_eq ih _ _ h
      rw [Array.toList_inj.1 this]
    · rename_i a b
      have := sameL_eq ih _ _ h
      rw [Array.toList_inj.1 this]
    · rename_i f x y g x1 y1
      cases h1 : Nat.beq f g with
      | false => rw [h1] at h; cases h
      | true =>
        rw [h1, cond_true] at h
        cases h2 : sameL (sameV n) x.toList x1.toList with
        | false => rw [h2] at h; cases h
        | true =>
          rw [h2, cond_true] at h
          rw [Nat.eq_of_beq_eq_true h1, Array.toList_inj.1 (sameL_eq ih _ _ h2), Array.toList_inj.1 (sameL_eq ih _ _ h)]
    · cases h


def findGrow : List LEnt → Nat → Nat → Nat → Nat → List Value → Option (Nat × Nat)
  | [], _, _, _, _, _ => none
  | .grow k s m sz vs k' s' :: l, k0, s0, m0, sz0, vs0 => cond (Nat.beq k k0) (cond (Nat.beq s s0) (cond (Nat.beq m m0) (cond (Nat.beq sz sz0) (cond (sameL (sameV 3) vs vs0) (some (k', s')) (findGrow l k0 s0 m0 sz0 vs0)) (findGrow l k0 s0 m0 sz0 vs0)) (findGrow l k0 s0 m0 sz0 vs0)) (findGrow l k0 s0 m0 sz0 vs0)) (findGrow l k0 s0 m0 sz0 vs0)
  | _ :: l, k0, s0, m0, sz0, vs0 => findGrow l k0 s0 m0 sz0 vs0
def findIdx : List LEnt → Nat → Value → Nat → Option Nat
  | [], _, _, _ => none
  | .idx s i sz r :: l, s0, i0, sz0 => cond (Nat.beq s s0) (cond (sameV 3 i i0) (cond (Nat.beq sz sz0) (some r) (findIdx l s0 i0 sz0)) (findIdx l s0 i0 sz0)) (findIdx l s0 i0 sz0)
  | _ :: l, s0, i0, sz0 => findIdx l s0 i0 sz0
def findGet : List LEnt → Nat → Nat → Nat → Option (List Value)
  | [], _, _, _ => none
  | .get k r vs :: l, k0, r0, n0 => cond (Nat.beq k k0) (cond (Nat.beq r r0) (cond (Nat.beq vs.length n0) (some vs) (findGet l k0 r0 n0)) (findGet l k0 r0 n0)) (findGet l k0 r0 n0)
  | _ :: l, k0, r0, n0 => findGet l k0 r0 n0
def findOff : List LEnt → Nat → Nat → Option Nat
  | [], _, _ => none
  | .off r d r' :: l, r0, d0 => cond (Nat.beq r r0) (cond (Nat.beq d d0) (some r') (findOff l r0 d0)) (findOff l r0 d0)
  | _ :: l, r0, d0 => findOff l r0 d0

theorem findGrow_ok : ∀ (l : List LEnt) (k s m sz : Nat) (vs : List Value) (q : Nat × Nat), LsOk l → findGrow l k s m sz vs = some q → LOk (.grow k s m sz vs q.1 q.2)
  | [], _, _, _, _, _, _, _, h => nomatch h
  | x :: l, k0, s0, m0, sz0, vs0, q, ⟨h1, h2⟩, h => by
    have ih := findGrow_ok l k0 s0 m0 sz0 vs0 q h2
    cases x with
    | grow k s m sz vs k' s' =>
      simp only [findGrow] at h
      cases e1 : Nat.beq k k0 with
      | false => rw [e1] at h; exact ih h
      | true =>
      cases e2 : Nat.beq s s0 with
      | false => rw [e1, e2] at h; exact ih h
      | true =>
      cases e3 : Nat.beq m m0 with
      | false => rw [e1, e2, e3] at h; exact ih h
      | true =>
      cases e4 : Nat.beq sz sz0 with
      | false => rw [e1, e2, e3, e4] at h; exact ih h
      | true =>
      cases e5 : sameL (sameV 3) vs vs0 with
      | false => rw [e1, e2, e3, e4, e5] at h; exact ih h
      | true =>
        rw [e1, e2, e3, e4, e5] at h
        injection h with h
        have q1 := Nat.eq_of_beq_eq_true e1
        have q2 := Nat.eq_of_beq_eq_true e2
        have q3 := Nat.eq_of_beq_eq_true e3
        have q4 := Nat.eq_of_beq_eq_true e4
        have q5 := sameL_eq (sameV_eq 3) _ _ e5
        subst q1 q2 q3 q4 q5 h
        exact h1
    | idx => exact ih h
    | get => exact ih h
    | off => exact ih h
    | keq => exact ih h
    | put => exact ih h
    | mk => exact ih h
theorem findIdx_ok : ∀ (l : List LEnt) (s : Nat) (i : Value) (sz r : Nat), LsOk l → findIdx l s i sz = some r → LOk (.idx s i sz r)
  | [], _, _, _, _, _, h => nomatch h
  | x :: l, s0, i0, sz0, r0, ⟨h1, h2⟩, h => by
    have ih := findIdx_ok l s0 i0 sz0 r0 h2
    cases x with
    | idx s i sz r =>
      simp only [findIdx] at h
      cases e1 : Nat.beq s s0 with
      | false => rw [e1] at h; exact ih h
      | true =>
      cases e2 : sameV 3 i i0 with
      | false => rw [e1, e2] at h; exact ih h
      | true =>
      cases e3 : Nat.beq sz sz0 with
      | false => rw [e1, e2, e3] at h; exact ih h
      | true =>
        rw [e1, e2, e3] at h
        injection h with h
        have q1 := Nat.eq_of_beq_eq_true e1
        have q2 := sameV_eq 3 _ _ e2
        have q3 := Nat.eq_of_beq_eq_true e3
        subst q1 q2 q3 h
        exact h1
    | grow => exact ih h
    | get => exact ih h
    | off => exact ih h
    | keq => exact ih h
    | put => exact ih h
    | mk => exact ih h
theorem findGet_ok : ∀ (l : List LEnt) (k r n : Nat) (vs : List Value), LsOk l → findGet l k r n = some vs → vs.length = n ∧ LOk (.get k r vs)
  | [], _, _, _, _, _, h => nomatch h
  | x :: l, k0, r0, n0, v0, ⟨h1, h2⟩, h => by
    have ih := findGet_ok l k0 r0 n0 v0 h2
    cases x with
    | get k r vs =>
      simp only [findGet] at h
      cases e1 : Nat.beq k k0 with
      | false => rw [e1] at h; exact ih h
      | true =>
      cases e2 : Nat.beq r r0 with
      | false => rw [e1, e2] at h; exact ih h
      | true =>
      cases e3 : Nat.beq vs.length n0 with
      | false => rw [e1, e2, e3] at h; exact ih h
      | true =>
        rw [e1, e2, e3] at h
        injection h with h
        have q1 := Nat.eq_of_beq_eq_true e1
        have q2 := Nat.eq_of_beq_eq_true e2
        have q3 := Nat.eq_of_beq_eq_true e3
        subst q1 q2 h
        exact ⟨q3, h1⟩
    | grow => exact ih h
    | idx => exact ih h
    | off => exact ih h
    | keq => exact ih h
    | put => exact ih h
    | mk => exact ih h
theorem findOff_ok : ∀ (l : List LEnt) (r d r' : Nat), LsOk l → findOff l r d = some r' → LOk (.off r d r')
  | [], _, _, _, _, h => nomatch h
  | x :: l, r0, d0, q0, ⟨h1, h2⟩, h => by
    have ih := findOff_ok l r0 d0 q0 h2
    cases x with
    | off r d r' =>
      simp only [findOff] at h
      cases e1 : Nat.beq r r0 with
      | false => rw [e1] at h; exact ih h
      | true =>
      cases e2 : Nat.beq d d0 with
      | false => rw [e1, e2] at h; exact ih h
      | true =>
        rw [e1, e2] at h
        injection h with h
        have q1 := Nat.eq_of_beq_eq_true e1
        have q2 := Nat.eq_of_beq_eq_true e2
        subst q1 q2 h
        exact h1
    | grow => exact ih h
    | idx => exact ih h
    | get => exact ih h
    | keq => exact ih h
    | put => exact ih h
    | mk => exact ih h

def findKeq : List LEnt → Nat → Int → Option Bool
  | [], _, _ => none
  | .keq s m b :: l, s0, m0 => cond (Nat.beq s s0) (cond (eqI m m0) (some b) (findKeq l s0 m0)) (findKeq l s0 m0)
  | _ :: l, s0, m0 => findKeq l s0 m0
def findPut : List LEnt → Nat → Nat → List Value → Option Nat
  | [], _, _, _ => none
  | .put k r vs k' :: l, k0, r0, v0 => cond (Nat.beq k k0) (cond (Nat.beq r r0) (cond (sameL (sameV 3) vs v0) (some k') (findPut l k0 r0 v0)) (findPut l k0 r0 v0)) (findPut l k0 r0 v0)
  | _ :: l, k0, r0, v0 => findPut l k0 r0 v0
def findMk : List LEnt → Value → Nat → List Value → Option (Nat × Nat)
  | [], _, _, _ => none
  | .mk n sz z k' s' :: l, n0, sz0, z0 => cond (sameV 3 n n0) (cond (Nat.beq sz sz0) (cond (sameL (sameV 3) z z0) (some (k', s')) (findMk l n0 sz0 z0)) (findMk l n0 sz0 z0)) (findMk l n0 sz0 z0)
  | _ :: l, n0, sz0, z0 => findMk l n0 sz0 z0
theorem findKeq_ok : ∀ (l : List LEnt) (s : Nat) (m : Int) (b : Bool), LsOk l → findKeq l s m = some b → LOk (.keq s m b)
  | [], _, _, _, _, h => nomatch h
  | x :: l, s0, m0, b0, ⟨h1, h2⟩, h => by
    have ih := findKeq_ok l s0 m0 b0 h2
    cases x with
    | keq s m b =>
      simp only [findKeq] at h
      cases e1 : Nat.beq s s0 with
      | false => rw [e1] at h; exact ih h
      | true =>
      cases e2 : eqI m m0 with
      | false => rw [e1, e2] at h; exact ih h
      | true =>
        rw [e1, e2] at h
        injection h with h
        have q1 := Nat.eq_of_beq_eq_true e1
        rw [eqI_eq] at e2
        have q2 := eq_of_beq e2
        subst q1 q2 h
        exact h1
    | grow => exact ih h
    | idx => exact ih h
    | get => exact ih h
    | off => exact ih h
    | put => exact ih h
    | mk => exact ih h
theorem findPut_ok : ∀ (l : List LEnt) (k r : Nat) (vs : List Value) (k' : Nat), LsOk l → findPut l k r vs = some k' → LOk (.put k r vs k')
  | [], _, _, _, _, _, h => nomatch h
  | x :: l, k0, r0, v0, q0, ⟨h1, h2⟩, h => by
    have ih := findPut_ok l k0 r0 v0 q0 h2
    cases x with
    | put k r vs k' =>
      simp only [findPut] at h
      cases e1 : Nat.beq k k0 with
      | false => rw [e1] at h; exact ih h
      | true =>
      cases e2 : Nat.beq r r0 with
      | false => rw [e1, e2] at h; exact ih h
      | true =>
      cases e3 : sameL (sameV 3) vs v0 with
      | false => rw [e1, e2, e3] at h; exact ih h
      | true =>
        rw [e1, e2, e3] at h
        injection h with h
        have q1 := Nat.eq_of_beq_eq_true e1
        have q2 := Nat.eq_of_beq_eq_true e2
        have q3 := sameL_eq (sameV_eq 3) _ _ e3
        subst q1 q2 q3 h
        exact h1
    | grow => exact ih h
    | idx => exact ih h
    | get => exact ih h
    | off => exact ih h
    | keq => exact ih h
    | mk => exact ih h
theorem findMk_ok : ∀ (l : List LEnt) (n : Value) (sz : Nat) (z : List Value) (q : Nat × Nat), LsOk l → findMk l n sz z = some q → LOk (.mk n sz z q.1 q.2)
  | [], _, _, _, _, _, h => nomatch h
  | x :: l, n0, sz0, z0, q0, ⟨h1, h2⟩, h => by
    have ih := findMk_ok l n0 sz0 z0 q0 h2
    cases x with
    | mk n sz z k' s' =>
      simp only [findMk] at h
      cases e1 : sameV 3 n n0 with
      | false => rw [e1] at h; exact ih h
      | true =>
      cases e2 : Nat.beq sz sz0 with
      | false => rw [e1, e2] at h; exact ih h
      | true =>
      cases e3 : sameL (sameV 3) z z0 with
      | false => rw [e1, e2, e3] at h; exact ih h
      | true =>
        rw [e1, e2, e3] at h
        injection h with h
        have q1 := sameV_eq 3 _ _ e1
        have q2 := Nat.eq_of_beq_eq_true e2
        have q3 := sameL_eq (sameV_eq 3) _ _ e3
        subst q1 q2 q3 h
        exact h1
    | grow => exact ih h
    | idx => exact ih h
    | get => exact ih h
    | off => exact ih h
    | keq => exact ih h
    | put => exact ih h

/-! ### append -/
theorem VRel.lst_inv {γ : Gam} {id s : Nat} {v' : Value} (h : VRel γ (.pointer (some ⟨id, s, some 2⟩)) v') :
    (∃ B O C n, γ id = some (B, O, C) ∧ Rho.val s = .int .i64 (n : Nat) ∧ n ≤ C ∧ v' = .slice (some ⟨B, O, none⟩) n C) ∨ (Rho.val s = .int .i64 0 ∧ v' = .slice none 0 0) := by
  cases h with
  | lsl s n h hs hn => exact .inl ⟨_, _, _, n, h, hs, hn, rfl⟩
  | lsn id s hs => exact .inr ⟨hs, rfl⟩
theorem VRel.lsp_inv {γ : Gam} {id r : Nat} {v' : Value} (h : VRel γ (.pointer (some ⟨id, r, some 3⟩)) v') :
    ∃ B O C m, γ id = some (B, O, C) ∧ Rho.val r = .int .i64 (m : Nat) ∧ v' = .pointer (some ⟨B, O + m, none⟩) := by
  cases h with
  | lsp r m h hr => exact ⟨_, _, _, m, h, hr, rfl⟩

def lAppend {β : Type} (e : Env) (T : Tm) (s : St) (id sy : Nat) (y : Operand) (t tx : TypeId) (k : K β) : Option β :=
  match e.tyOf t with
  | some i => match i.desc with
    | .slice el => match e.tyOf el with
      | some te => match te.zero with
        | some z => cond (Nat.beq z.cells.toList.length te.size) (cond (Nat.blt te.bytes 1048576) (match srcOf e T s tx y te.size with
          | some (m, news) => cond (Nat.blt 0 m) (match s.at id with
            | .lst kk t' sz => cond (Nat.beq t' el) (cond (Nat.beq sz te.size) (cond (Nat.blt id s.next) (match e.grow kk sy m sz news with
                | some (k', s') => s.putK id .dead fun s1 => s1.newK (.lst k' el sz) fun id' s2 => k (.pointer (some ⟨id', s', some 2⟩)) s2
                | none => none) none) none) none
            | _ => none) none
          | none => none) none) none
        | none => none
      | none => none
    | _ => none
  | none => none

/-- A new list. -/
theorem Step.newList {γ : Gam} {h : Hp} {w : World} {id k t sz C : Nat} {arr : Array Value} (hs : Sat γ h w) (hg : γ id = none) (hr : C * sz ≤ arr.size) (hl : (Rho.lst k).length ≤ C * sz)
    (hc : ∀ i (h : i < (Rho.lst k).length), arr[i]? = some (Rho.lst k)[i]) (d : Nat) :
    Step id (id + 1) γ h w (γ.add id (w.heap.size, 0, C)) (fun j => if j = id then .lst k t sz else h j) { w with heap := w.heap.push (.cells arr t (0, 0)), drawn := d } := by
  refine Step.ofNew hs hg (by simp) (fun B hB => ?_) rfl rfl rfl ?_
  · simp only [Array.getElem?_push]
    rw [if_neg (by omega)]
  · exact .inr ⟨_, 0, C, arr, Gam.add_same γ id _, by simp, by simpa using hr, hl, fun i hi => by rw [Nat.zero_add]; exact hc i hi⟩

theorem lAppend_ok {β : Type} {P : Program} {e : Env} (he : Env.Ok P e) {T : Tm} {s : St} {o : Oper} {x y : Operand} {t tx : TypeId} {id sy : Nat} {k : K β} {r : β} (ho : o.op = .call ⟨.builtin .append, #[x, y], #[t, tx]⟩)
    (hx : aev T x = some (.pointer (some ⟨id, sy, some 2⟩))) (h : lAppend e T s id sy y t tx k = some r) (hw : s.Wf) : ∃ v s', k v s' = some r ∧ Raw s s' ∧ HOk P o T s s' v := by
  unfold lAppend at h
  split at h
  case h_2 => cases h
  rename_i i hi
  split at h
  case h_2 => cases h
  rename_i el hd
  split at h
  case h_2 => cases h
  rename_i te hte
  split at h
  case h_2 => cases h
  rename_i z hz
  cases h1 : Nat.beq z.cells.toList.length te.size with
  | false => simp only [h1, cond_false] at h; cases h
  | true =>
  cases h2 : Nat.blt te.bytes 1048576 with
  | false => simp only [h1, h2, cond_true, cond_false] at h; cases h
  | true =>
  simp only [h1, h2, cond_true] at h
  have hzs : z.cells.size = te.size := by simpa using Nat.eq_of_beq_eq_true h1
  have hby : te.bytes < 1048576 := Nat.le_of_ble_eq_true h2
  have hu := (he.ty t i hi).1
  rw [hd] at hu
  obtain ⟨_, ie, hie, hies, hieb, hiez⟩ := he.ty el te hte
  have hiez' : ie.zero = some z := hiez.trans hz
  split at h
  case h_2 => cases h
  rename_i m news hsrc
  rw [← hies] at hsrc
  have fits : ∀ {old need : Nat}, old < need → need < 1048576 → Builtin.nextslicecap need old * ie.bytes ≤ 281474976710656 := fun {old need} ho hn =>
    growslice_fits ho (by rw [hieb]; have : need * te.bytes ≤ 1048576 * 1048576 := Nat.mul_le_mul (by omega) (by omega); omega)
  cases h3 : Nat.blt 0 m with
  | false => simp only [h3, cond_false] at h; cases h
  | true =>
  simp only [h3, cond_true] at h
  have h3' : 0 < m := Nat.le_of_ble_eq_true h3
  split at h
  case h_2 => cases h
  rename_i kk t' sz hb
  cases h4 : Nat.beq t' el with
  | false => simp only [h4, cond_false] at h; cases h
  | true =>
  cases h5 : Nat.beq sz te.size with
  | false => simp only [h4, h5, cond_true, cond_false] at h; cases h
  | true =>
  cases h6 : Nat.blt id s.next with
  | false => simp only [h4, h5, h6, cond_true, cond_false] at h; cases h
  | true =>
  simp only [h4, h5, h6, cond_true] at h
  have h4' := Nat.eq_of_beq_eq_true h4
  have h5' := Nat.eq_of_beq_eq_true h5
  have h6' : id < s.next := Nat.le_of_ble_eq_true h6
  subst h4' h5'
  split at h
  case h_2 => cases h
  rename_i k' s1 hfind
  obtain ⟨hcl, hml, n, hv, hv', hkl, hk', hnm⟩ := he.grow kk sy m te.size news (k', s1) hfind
  simp only at hv' hk'
  obtain ⟨sa, hk1, hraw1, hn1, hat1⟩ := St.putK_inv h hw (St.sees_of_at hb (by simp)) h6'
  obtain ⟨sb, hk2, hraw2, hn2, hd2, hat2⟩ := St.newK_inv hk1 hraw1.wf
  rw [hn1] at hk2
  refine ⟨_, sb, hk2, hraw1.trans hraw2, fun γ mt a w hT hS hf => ?_⟩
  have hgn := hf s.next (Nat.le_refl _) (by omega)
  have hne : id ≠ s.next := by omega
  have hat : sb.at = fun j => if j = s.next then AB.lst k' t' te.size else if j = id then .dead else s.at j := by rw [hat2, hat1, hn1]
  obtain ⟨hl, news', hrel, hs⟩ := srcOf_ok (P := P) he hsrc hT hS
  have hnews : news' = dens 3 news := closed_eqs γ 3 _ _ hcl hrel
  have hnl : news'.length = m * te.size := by rw [hs.newsLen, hies]
  have hlk : (Rho.lst k').length = (n + m) * te.size := by rw [hk', List.length_append, hkl, ← hnews, hnl, Nat.add_mul]
  rw [hn2, hn1, hat]
  -- a new row
  have fresh : ∀ (sCap : Nat), sCap < n + m → ∃ γ', Step s.next (s.next + 1) γ s.at w γ' (fun j => if j = s.next then AB.lst k' t' te.size else if j = id then .dead else s.at j)
      (w.drew.alloc (.cells ((Rho.lst kk ++ news').toArray ++ Builtin.zeroCells z.cells (grownCap w (n + m) sCap t' - (n + m))) t')) ∧
      VRel γ' (.pointer (some ⟨s.next, s1, some 2⟩)) (.slice (some ⟨w.heap.size, 0, none⟩) (n + m) (grownCap w (n + m) sCap t')) := by
    intro sCap hcap
    have hG := grownCap_le w (n + m) sCap t'
    have hsz : ((Rho.lst kk ++ news').toArray ++ Builtin.zeroCells z.cells (grownCap w (n + m) sCap t' - (n + m))).size = grownCap w (n + m) sCap t' * te.size := by
      simp only [Array.size_append, size_zeroCells, List.size_toArray, List.length_append, hkl, hnl, hzs, ← Nat.add_mul]
      congr 1
      omega
    have st1 : Step s.next (s.next + 1) γ s.at w (γ.add s.next (w.heap.size, 0, grownCap w (n + m) sCap t')) (fun j => if j = s.next then AB.lst k' t' te.size else s.at j)
        (w.drew.alloc (.cells ((Rho.lst kk ++ news').toArray ++ Builtin.zeroCells z.cells (grownCap w (n + m) sCap t' - (n + m))) t')) :=
      Step.newList hS hgn (by rw [hsz]; exact Nat.le_refl _) (by rw [hlk]; exact Nat.mul_le_mul_right _ hG) (fun j hj => by
        have hj' : j < (Rho.lst kk ++ news').length := by rw [hk', ← hnews] at hj; exact hj
        have e2 : (Rho.lst k')[j] = (Rho.lst kk ++ news')[j] := by simp only [hk', hnews]
        rw [Array.getElem?_append_left (by simpa using hj'), e2]
        simp only [List.getElem?_toArray, List.getElem?_eq_getElem hj']) (w.drawn + 1)
    have st2 := st1.kill id
    refine ⟨_, ?_, VRel.lsl s1 (n + m) (Gam.add_same γ s.next _) hv' hG⟩
    have e1 : (fun j => if j = id then AB.dead else if j = s.next then AB.lst k' t' te.size else s.at j) = (fun j => if j = s.next then AB.lst k' t' te.size else if j = id then .dead else s.at j) := by
      funext j
      by_cases q1 : j = id <;> by_cases q2 : j = s.next <;> simp [q1, q2, hne]
      omega
    rw [← e1]
    exact st2
  rcases (aev_rel hT hx).lst_inv with ⟨B, O, C, n', hg, hv2, hnC, hx'⟩ | ⟨hv2, hx'⟩
  · -- a row
    have hn' : n' = n := by rw [hv] at hv2; injection hv2 with _ q; omega
    subst hn'
    have hsb := hS.blk id
    rw [hb] at hsb
    rcases hsb with ⟨_, q⟩ | ⟨B', O', C', arr, hg', ha, hroom, hlen, hc⟩
    · rw [hg] at q; cases q
    rw [hg] at hg'
    cases hg'
    by_cases hfit : n' + m ≤ C
    · -- there is room
      have hmul : n' * te.size + m * te.size ≤ C * te.size := by rw [← Nat.add_mul]; exact Nat.mul_le_mul_right _ hfit
      have hrun := run_append_room_src (P := P) w t tx o.type t' ie hu hie B O n' C (a.eval y) m news' hs hfit
        (fun j hj => by simp only [World.cell?, ha, hies]; simp [show O + n' * te.size + j < arr.size by omega]) (fun j hj => by simp [World.frozen?, ha])
      rw [hies, setCells_row (P := P) ha (by omega) hs.one] at hrun
      refine ⟨γ.add s.next (B, O, C), _, _, ?_, VRel.lsl s1 (n' + m) (Gam.add_same γ s.next (B, O, C)) hv' hfit, .inl (exec_append ho (by rw [hx']; exact hrun))⟩
      refine Step.ofMove hS (by rw [hb]; rfl) hg hgn (by simp) (fun B' hB' => setRow_other w B B' _ hB') rfl rfl rfl ?_
      refine .inr ⟨B, O, C, _, Gam.add_same γ s.next _, setRow_heap w B arr _ t' _ ha, by simp; omega, by rw [hlk]; exact Nat.mul_le_mul_right _ hfit, fun j hj => ?_⟩
      have hj' : j < (Rho.lst kk ++ news').length := by rw [hk', ← hnews] at hj; exact hj
      have e2 : (Rho.lst k')[j] = (Rho.lst kk ++ news')[j] := by simp only [hk', hnews]
      rw [e2]
      simp only [List.length_append, hkl, hnl] at hj'
      simp only [List.getElem?_toArray]
      by_cases hj2 : j < n' * te.size
      · have := hc j (by rw [hkl]; exact hj2)
        rw [List.append_assoc, List.getElem?_append_left (by simp; omega), List.getElem?_take, if_pos (by omega), List.getElem_append_left (by rw [hkl]; exact hj2)]
        simpa using this
      · rw [List.append_assoc, List.getElem?_append_right (by simp; omega), List.getElem?_append_left (by simp; omega), List.getElem_append_right (by rw [hkl]; omega)]
        have e3 : j + O - (List.take (O + n' * te.size) arr.toList).length = j - (Rho.lst kk).length := by simp [hkl]; omega
        rw [Nat.add_comm O j, e3, List.getElem?_eq_getElem]
    · -- it grows
      have hold : (Builtin.firstCells ie.size n' (.slice (some ⟨B, O, none⟩) n' C)).run P w.drew = .ok (Rho.lst kk).toArray w.drew :=
        run_firstCells_some w.drew ie.size n' _ n' C (Rho.lst kk) (by rw [hkl, hies]) (fun j v hj => by
          rw [Addr.add_mid]
          obtain ⟨q1, q2⟩ := List.getElem?_eq_some_iff.1 hj
          have := hc j q1
          have hd : w.drew.heap[B]? = some (.cells arr t' (0, 0)) := ha
          simp [World.cell?, hd, this, q2])
      have hrun := run_append_grow_src (P := P) w t tx o.type t' ie z hu hie hiez' (some ⟨B, O, none⟩) n' C (Rho.lst kk) hold (a.eval y) m news' hs (by omega) (by omega) (fits (by omega) hnm)
      obtain ⟨γ', st, hvr⟩ := fresh C (by omega)
      exact ⟨γ', _, _, st, hvr, .inl (exec_append ho (by rw [hx']; exact hrun))⟩
  · -- nil
    have hn0 : n = 0 := by rw [hv] at hv2; injection hv2 with _ q; omega
    subst hn0
    have hnil : Rho.lst kk = [] := List.length_eq_zero_iff.1 (by rw [hkl]; simp)
    have hrun := run_append_grow_src (P := P) w t tx o.type t' ie z hu hie hiez' none 0 0 [] (by simp [Builtin.firstCells]) (a.eval y) m news' hs (by omega) (by omega) (fits (by omega) (by omega))
    obtain ⟨γ', st, hvr⟩ := fresh 0 (by omega)
    rw [hnil] at st
    exact ⟨γ', _, _, st, hvr, .inl (exec_append ho (by rw [hx']; exact hrun))⟩

/-! ### a store into a list; a list made -/
def lStore {β : Type} (e : Env) (T : Tm) (s : St) (id r : Nat) (t : TypeId) (y : Operand) (k : K β) : Option β :=
  match aev T y, e.tyOf t with
  | some v, some i => match s.at id with
    | .lst kk t' sz => cond (Nat.beq v.cells.toList.length i.size) (cond (one' v.cells.toList) (cond (Nat.blt id s.next) (match e.putL kk r v.cells.toList with
      | some k' => s.putK id (.lst k' t' sz) fun s' => k undef s'
      | none => none) none) none) none
    | _ => none
  | _, _ => none
theorem lStore_ok {β : Type} {P : Program} {e : Env} (he : Env.Ok P e) {T : Tm} {s : St} {o : Oper} {t : TypeId} {x y : Operand} {id r : Nat} {k : K β} {rr : β} (ho : o.op = .store t x y)
    (hx : aev T x = some (.pointer (some ⟨id, r, some 3⟩))) (h : lStore e T s id r t y k = some rr) (hw : s.Wf) : ∃ v s', k v s' = some rr ∧ Raw s s' ∧ HOk P o T s s' v := by
  unfold lStore at h
  split at h
  case h_2 => cases h
  rename_i v i hy hi
  split at h
  case h_2 => cases h
  rename_i kk t' sz hb
  cases h1 : Nat.beq v.cells.toList.length i.size with
  | false => simp only [h1, cond_false] at h; cases h
  | true =>
  cases h2 : one' v.cells.toList with
  | false => simp only [h1, h2, cond_true, cond_false] at h; cases h
  | true =>
  cases h4 : Nat.blt id s.next with
  | false => simp only [h1, h2, h4, cond_true, cond_false] at h; cases h
  | true =>
  simp only [h1, h2, h4, cond_true] at h
  split at h
  case h_2 => cases h
  rename_i k' hput
  have h1' := Nat.eq_of_beq_eq_true h1
  have h4' : id < s.next := Nat.le_of_ble_eq_true h4
  obtain ⟨hcl, m, hv, hml, hk'⟩ := he.putL kk r _ k' hput
  obtain ⟨s', hk, hraw, hn, hat⟩ := St.putK_inv h hw (St.sees_of_at hb (by simp)) h4'
  refine ⟨_, s', hk, hraw, fun γ n a w hT hS hf => ?_⟩
  obtain ⟨B, O, C, m2, hg, hv2, hx'⟩ := (aev_rel hT hx).lsp_inv
  have hm : m2 = m := by rw [hv] at hv2; injection hv2 with _ q; omega
  subst hm
  have hsb := hS.blk id
  rw [hb] at hsb
  rcases hsb with ⟨_, q⟩ | ⟨B', O', C', arr, hg', ha, hroom, hlen, hc⟩
  · rw [hg] at q; cases q
  rw [hg] at hg'; cases hg'
  obtain ⟨hdesc, j, hj, hjs, _, _⟩ := he.ty t i hi
  have hvr := (aev_rel hT hy).cells
  have hce := closed_eqs γ 3 _ _ hcl hvr
  have hdl : (dens 3 v.cells.toList).length = v.cells.toList.length := by simp [dens]
  have hst := run_storeCells_at P B (O + m2) t' (a.eval y).cells.toList 0 arr w ha (by have := hvr.1; omega) (one'_rel hvr h2)
  rw [hce] at hst
  have hl' : (Rho.lst k').length = (Rho.lst kk).length := by rw [hk']; simp [dens]; simp at hml; omega
  refine ⟨γ, w.setRow B (arr.toList.take (O + m2) ++ dens 3 v.cells.toList ++ arr.toList.drop (O + m2 + (dens 3 v.cells.toList).length)).toArray, undef, ?_, .tuple _ _ rfl (fun i h1 _ => by simp at h1), .inr ⟨rfl, rfl, ?_⟩⟩
  · rw [hn, hat]
    refine Step.ofPut hS (by rw [hb]; rfl) hg (by simp) (fun B' hB' => setRow_other w B B' _ hB') rfl rfl rfl ?_
    refine .inr ⟨B, O, C, _, hg, setRow_heap w B arr _ t' _ ha, by simp [hdl]; omega, by rw [hl']; exact hlen, fun i hi' => ?_⟩
    have hi2 : i < (Rho.lst kk).length := by rw [← hl']; exact hi'
    rw [← List.getElem?_eq_getElem hi', hk']
    simp only [List.getElem?_toArray, List.append_assoc, List.getElem?_append, List.getElem?_take, List.getElem?_drop, List.length_take, Array.length_toList, hdl]
    have hvl : v.cells.toList.length = v.cells.size := Array.length_toList
    generalize v.cells.size = vl at *
    rw [hvl] at hml
    have e1 : min (O + m2) arr.size = O + m2 := by omega
    have e2 : min m2 (Rho.lst kk).length = m2 := by omega
    simp only [e1, e2]
    have this := hc i hi2
    rw [← List.getElem?_eq_getElem hi2, ← Array.getElem?_toList] at this
    by_cases q1 : i < m2
    · simp only [q1, show O + i < O + m2 by omega, if_true]
      exact this
    · by_cases q2 : i - m2 < vl
      · simp only [q1, q2, show ¬ O + i < O + m2 by omega, if_false, show O + i - (O + m2) = i - m2 by omega, if_true]
      · simp only [q1, q2, show ¬ O + i < O + m2 by omega, if_false, show O + i - (O + m2) = i - m2 by omega, show O + m2 + vl + (i - m2 - vl) = O + i by omega, show m2 + vl + (i - m2 - vl) = i by omega]
        exact this
  · have hsz2 : (a.eval y).cells.size = j.size := by rw [hjs, ← h1', hvr.1]; simp
    simp only [Nat.add_zero] at hst
    simp only [execOp, ho, hx']
    simp [Instr.storeAt, Instr.sureAddr, storeVar, sizeOf, typeInfo, hj, hsz2, hce, hst]

omit [Rho] in
theorem zrep_flat (z : List Value) : ∀ n, zrep n z = (List.replicate n z).flatten
  | 0 => rfl
  | n + 1 => by simp [zrep, zrep_flat z n, List.replicate_succ]
def lMake {β : Type} (e : Env) (s : St) (sy : Nat) (t : TypeId) (k : K β) : Option β :=
  match e.tyOf t with
  | some i => match i.desc with
    | .slice el => match e.tyOf el with
      | some te => match te.zero with
        | some z => cond (plain 8 z) (cond (Nat.beq z.cells.toList.length te.size) (cond (Nat.blt te.bytes 1048576) (match e.mkL (.chan (some sy)) te.size z.cells.toList with
            | some (k', s') => s.newK (.lst k' el te.size) fun id s2 => k (.pointer (some ⟨id, s', some 2⟩)) s2
            | none => none) none) none) none
        | none => none
      | none => none
    | _ => none
  | none => none
theorem lMake_ok {β : Type} {P : Program} {e : Env} (he : Env.Ok P e) {T : Tm} {s : St} {o : Oper} {t : TypeId} {x y : Operand} {sy : Nat} {k : K β} {r : β} (ho : o.op = .makeSlice t x y)
    (hx : aev T x = some (.chan (some sy))) (hy : aev T y = some (.chan (some sy))) (h : lMake e s sy t k = some r) (hw : s.Wf) : ∃ v s', k v s' = some r ∧ Raw s s' ∧ HOk P o T s s' v := by
  unfold lMake at h
  split at h
  case h_2 => cases h
  rename_i i hi
  split at h
  case h_2 => cases h
  rename_i el hd
  split at h
  case h_2 => cases h
  rename_i te hte
  split at h
  case h_2 => cases h
  rename_i z hz
  cases h1 : plain 8 z with
  | false => simp only [h1, cond_false] at h; cases h
  | true =>
  cases h2 : Nat.beq z.cells.toList.length te.size with
  | false => simp only [h1, h2, cond_true, cond_false] at h; cases h
  | true =>
  cases h5 : Nat.blt te.bytes 1048576 with
  | false => simp only [h1, h2, h5, cond_true, cond_false] at h; cases h
  | true =>
  simp only [h1, h2, h5, cond_true] at h
  split at h
  case h_2 => cases h
  rename_i k' s1 hmk
  have h2' := Nat.eq_of_beq_eq_true h2
  have h5' : te.bytes < 1048576 := Nat.le_of_ble_eq_true h5
  obtain ⟨_, c, q, hden, hc, _, hs', hk'⟩ := he.mkL _ _ _ _ hmk
  simp only at hs' hk'
  obtain ⟨s', hk, hraw, hn, hd0, hat⟩ := St.newK_inv h hw
  refine ⟨_, s', hk, hraw, fun γ n a w hT hS hf => ?_⟩
  have hg := hf s.next (Nat.le_refl _) (by omega)
  have hval : Rho.val sy = .int q (c : Nat) := hden
  have hxr := aev_rel hT hx
  have hyr := aev_rel hT hy
  have hx' : a.eval x = .int q (c : Nat) := by rw [← hval]; generalize a.eval x = v at hxr; cases hxr; rfl
  have hy' : a.eval y = .int q (c : Nat) := by rw [← hval]; generalize a.eval y = v at hyr; cases hyr; rfl
  have hu := ok_underlying he hi w
  rw [hd] at hu
  obtain ⟨j, hj, hjp, hjs, hjb, hjz⟩ := ok_bytes he hte w
  have hzs : z.cells.size = te.size := by simpa using h2'
  have hz' := ok_zero he hte hz w
  have harr := zrep_array c z.cells
  have hlen : ((Array.range (c * te.size)).map (fun i => z.cells[i % z.cells.size]!)).toList = zrep c z.cells.toList := by rw [← hzs]; exact harr
  have hll : (Rho.lst k').length = c * te.size := by rw [hk', ← zrep_flat, zrep_len, h2']
  refine ⟨γ.add s.next (w.heap.size, 0, c), { w with heap := w.heap.push (.cells ((Array.range (c * te.size)).map (fun i => z.cells[i % z.cells.size]!)) el (0, 0)), drawn := w.drawn }, .slice (some ⟨w.heap.size, 0, none⟩) c c, ?_, VRel.lsl s1 c (Gam.add_same γ s.next _) hs' (Nat.le_refl _), .inl ?_⟩
  · rw [hn, hat]
    refine Step.newList hS hg (by simp) (by rw [hll]; exact Nat.le_refl _) (fun i hi' => ?_) _
    rw [← Array.getElem?_toList, hlen, ← List.getElem?_eq_getElem hi', hk', zrep_flat]
  · have e1 : IntKind.i64.wrap (c : Int) = (c : Int) := wrap_small (n := c) (by rw [two40]; omega)
    have hmul : te.bytes * c ≤ 1048576 * 1048576 := Nat.mul_le_mul (by omega) (by omega)
    have e3 : ¬ ((c : Int) < 0) := by omega
    have e4 : ¬ ((2 : Int) ^ 48 < (te.bytes : Int) * (c : Int)) := by
      have : ((te.bytes * c : Nat) : Int) = (te.bytes : Int) * (c : Int) := by simp
      rw [← this]
      have : (2 : Int) ^ 48 = 281474976710656 := by decide
      omega
    have e6 : ¬ ((c : Int) > (c : Int)) := by omega
    have hcond : (((decide ((c : Int) < 0) || decide ((te.bytes : Int) * (c : Int) > 2 ^ 48)) || decide ((c : Int) < 0)) || decide ((c : Int) > (c : Int))) = false := by
      simp only [e3, e6, gt_iff_lt, e4, decide_false, Bool.or_false]
    by_cases hc0 : c * te.size = 0
    · simp only [execOp, ho, Instr.makeSlice, hx', hy', asInt, asIntOf, Sem.run_bind, Sem.run_pure, hu, Result.andThen_ok, hj, e1, hjb]
      rw [if_neg (by rw [hcond]; simp)]
      have hrng : ∀ f g : Nat → Value, (Array.range (c * te.size)).map f = (Array.range (c * te.size)).map g := by intro f g; rw [hc0]; simp
      rw [hrng (fun i => z.cells[i % z.cells.size]!) (fun i => (#[] : Array Value)[i % (#[] : Array Value).size]!)]
      simp [ok_sizeOf he hte, hc0, newRow]
    · simp only [execOp, ho, Instr.makeSlice, hx', hy', asInt, asIntOf, Sem.run_bind, Sem.run_pure, hu, Result.andThen_ok, hj, e1, hjb]
      rw [if_neg (by rw [hcond]; simp)]
      simp [ok_sizeOf he hte, hc0, hz', newRow]

/-! ### what touches no memory, or reads -/
/-- The length of a list, the place of an element, of a field, an element's cells. -/
def lstOp (e : Env) (T : Tm) (s : St) (op : Op) : Option Value := match op with
  | .call ⟨.builtin .len, ⟨[x]⟩, ⟨[t]⟩⟩ => match aev T x, e.tyOf t with
    | some (.pointer (some ⟨_, sy, some 2⟩)), some i => match i.desc with
      | .slice _ => some (.chan (some sy))
      | _ => none
    | _, _ => none
  | .indexAddr t x i => match aev T x, aev T i, e.tyOf t with
    | some (.pointer (some ⟨id, sy, some 2⟩)), some j, some ti => match ti.desc with
      | .slice el => match e.tyOf el with
        | some te => match e.idx sy j te.size with
          | some r => some (.pointer (some ⟨id, r, some 3⟩))
          | none => none
        | none => none
      | _ => none
    | _, _, _ => none
  | .fieldAddr t x f => match aev T x, e.tyOf t with
    | some (.pointer (some ⟨id, r, some 3⟩)), some ti => match ti.desc with
      | .struct fields => match fields.toList[f]? with
        | some fl => match e.tyOf fl.type with
          | some j => cond (Nat.beq j.size 0) none (match e.offL r fl.offset with
            | some r' => some (.pointer (some ⟨id, r', some 3⟩))
            | none => none)
          | none => none
        | none => none
      | _ => none
    | _, _ => none
  | .load t x => match aev T x, e.tyOf t with
    | some (.pointer (some ⟨id, r, some 3⟩)), some ti => match s.at id with
      | .lst kk _ _ => match e.getL kk r ti.size t with
        | some vs => partL ti vs 0
        | none => none
      | _ => none
    | _, _ => none
  | _ => none

theorem dens_get {l : List Value} {j : Nat} : (dens 3 l)[j]? = (l[j]?).map (den 3) := by simp [dens]

theorem lstOp_ok {P : Program} {e : Env} (he : Env.Ok P e) {T : Tm} {s : St} {o : Oper} {v : Value} (h : lstOp e T s o.op = some v) {γ : Gam} {n : Nat} {a : Act} (hT : TRel γ T n a.tmps) {w : World} (hS : Sat γ s.at w) :
    ∃ v', VRel γ v v' ∧ (execOp a.eval o).run P w = .ok (.value v') w := by
  obtain ⟨dst, op, type, pos, after, guard⟩ := o
  simp only at h
  unfold lstOp at h
  split at h
  · -- len
    rename_i x t
    split at h
    case h_2 => cases h
    rename_i id sy i hx hi
    split at h
    case h_2 => cases h
    rename_i el hd
    injection h with h
    subst h
    have hu := (he.ty t i hi).1
    rw [hd] at hu
    refine ⟨_, .sym sy, ?_⟩
    rcases (aev_rel hT hx).lst_inv with ⟨B, O, C, m, hg, hv, hm, hx'⟩ | ⟨hv, hx'⟩
    · simp [execOp, resolve, invoke, builtin, hx', Builtin.len_, run_underlying hu, goInt, hv]
    · simp [execOp, resolve, invoke, builtin, hx', Builtin.len_, run_underlying hu, goInt, hv]
  · -- an element's place
    rename_i t x i
    split at h
    case h_2 => cases h
    rename_i id sy j ti hx hj hti
    split at h
    case h_2 => cases h
    rename_i el hd
    split at h
    case h_2 => cases h
    rename_i te hte
    split at h
    case h_2 => cases h
    rename_i r hr
    injection h with h
    subst h
    obtain ⟨hcl, n', m, q, hv, hden, hmn, hvr⟩ := he.idx sy j te.size r hr
    have hu := (he.ty t ti hti).1
    rw [hd] at hu
    have hj' := closed_eq γ 3 _ _ hcl (aev_rel hT hj)
    rw [hden] at hj'
    rcases (aev_rel hT hx).lst_inv with ⟨B, O, C, m2, hg, hv2, hm, hx'⟩ | ⟨hv2, hx'⟩
    · have hn' : m2 = n' := by rw [hv] at hv2; injection hv2 with _ q; omega
      subst hn'
      refine ⟨_, .lsp r (m * te.size) hg hvr, ?_⟩
      have hsz := ok_sizeOf he hte w
      simp only [execOp, Sem.run_bind, hx', hj', Instr.indexAt, asIntOf, Sem.run_pure, Result.andThen_ok, run_underlying hu]
      simp [hmn, hsz, Addr.add_mid]
    · rw [hv] at hv2; injection hv2 with _ q; omega
  · -- a field's place
    rename_i t x f
    split at h
    case h_2 => cases h
    rename_i id r ti hx hti
    split at h
    case h_2 => cases h
    rename_i fields hd
    split at h
    case h_2 => cases h
    rename_i fl hfl
    split at h
    case h_2 => cases h
    rename_i j hj
    cases hz : Nat.beq j.size 0 with
    | true => simp only [hz, cond_true] at h; cases h
    | false =>
    simp only [hz, cond_false] at h
    split at h
    case h_2 => cases h
    rename_i r' hr'
    injection h with h
    subst h
    obtain ⟨m, hv, hv'⟩ := he.offL r fl.offset r' hr'
    obtain ⟨B, O, C, m2, hg, hv2, hx'⟩ := (aev_rel hT hx).lsp_inv
    have hm : m2 = m := by rw [hv] at hv2; injection hv2 with _ q; omega
    subst hm
    refine ⟨_, .lsp r' (m2 + fl.offset) hg hv', ?_⟩
    have hu := ok_underlying he hti w
    rw [hd] at hu
    have hsz := ok_sizeOf he hj w
    have hz' := Nat.ne_of_beq_eq_false hz
    have hfl' : fields[f]? = some fl := by simpa using hfl
    have hpl : (fieldPlace ⟨B, O + m2, none⟩ fl).run P w = .ok ⟨B, O + m2 + fl.offset, none⟩ w := by simp [fieldPlace, hsz, hz', Addr.add_mid]
    simp [execOp, hx', Instr.fieldAt, hu, hfl', Instr.sureAddr, hpl, Nat.add_assoc]
  · -- an element
    rename_i t x
    split at h
    case h_2 => cases h
    rename_i id r ti hx hti
    split at h
    case h_2 => cases h
    rename_i kk t' sz hb
    split at h
    case h_2 => cases h
    rename_i vs hvs
    obtain ⟨hlen, hcl, m, hv, hget⟩ := he.getL kk r ti.size t vs hvs
    obtain ⟨B, O, C, m2, hg, hv2, hx'⟩ := (aev_rel hT hx).lsp_inv
    have hm : m2 = m := by rw [hv] at hv2; injection hv2 with _ q; omega
    subst hm
    have hsb := hS.blk id
    rw [hb] at hsb
    rcases hsb with ⟨_, q⟩ | ⟨B', O', C', arr, hg', ha, hroom, hll, hc⟩
    · rw [hg] at q; cases q
    rw [hg] at hg'
    cases hg'
    have hcell : ∀ j v, (dens 3 vs)[j]? = some v → w.cell? ⟨B, O + m2 + j, none⟩ = some v := by
      intro j v hj
      have hjl : j < vs.length := by
        have := (List.getElem?_eq_some_iff.1 hj).1
        simpa [dens] using this
      have h1 := hget j hjl
      rw [hj] at h1
      obtain ⟨q1, q2⟩ := List.getElem?_eq_some_iff.1 h1
      have h2 := hc (m2 + j) q1
      simp [World.cell?, ha, Nat.add_assoc, h2, q2]
    obtain ⟨hdesc, j, hj, hjs, _, _⟩ := he.ty t ti hti
    unfold partL at h
    cases hag : isAggD ti.desc with
    | true =>
      simp only [hag, cond_true] at h
      injection h with h
      have htake : (vs.drop 0).take ti.size = vs := by rw [List.drop_zero, List.take_of_length_le (by omega)]
      rw [htake] at h
      subst h
      have hrel : LRel γ vs (dens 3 vs) := ⟨by simp [dens], fun i h1 h2 => by
        have := closed_rel γ 3 vs[i] (List.all_eq_true.1 hcl _ (List.getElem_mem h1))
        simpa [dens] using this⟩
      refine ⟨_, VRel.aggOf hrel, ?_⟩
      have hrow : ti.desc.isRow = true := by cases hd : ti.desc <;> simp [hd, isAggD] at hag <;> rfl
      simp [execOp, hx', run_loadAt_mid w B (O + m2) t (dens 3 vs) ti.desc hcell hdesc hrow (by simp [hj, hjs, dens, hlen])]
    | false =>
      simp only [hag, cond_false] at h
      have hq : (dens 3 vs)[0]? = some (den 3 v) := by rw [dens_get, h]; rfl
      have hv0 : closed 3 v = true := by
        obtain ⟨q1, q2⟩ := List.getElem?_eq_some_iff.1 h
        rw [← q2]; exact List.all_eq_true.1 hcl _ (List.getElem_mem q1)
      have hc0 := hcell 0 _ hq
      simp only [Nat.add_zero] at hc0
      refine ⟨_, closed_rel γ 3 v hv0, ?_⟩
      simp [execOp, hx', Instr.loadAt, Instr.sureAddr, loadVar, ok_isAgg he hti, hag, hc0]
  · cases h
end Go.Ev
