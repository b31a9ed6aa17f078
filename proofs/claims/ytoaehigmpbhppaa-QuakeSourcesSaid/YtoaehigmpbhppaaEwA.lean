/- Symbols, part 1: what a frame and a state say by symbols of an activation and a world; a piece of code; other symbols for the same. -/
import Derived.Test.YtoaehigmpbhppaaEvZ
set_option linter.unusedSimpArgs false
set_option linter.unusedVariables false
namespace Go.Ev
open Go Go.RowKit

/-- An activation and a world are as a frame and a state say, since the function began, at w0. -/
def At [Rho] (w0 : World) (fr : Fr) (s : St) (a : Act) (w : World) : Prop :=
  ∃ γ : Gam, Step 0 s.next (fun _ => none) start.at w0 γ s.at w ∧ FrRel γ fr a ∧ ∀ id, s.next ≤ id → γ id = none

theorem At.run [Rho] {β : Type} {P : Program} {e : Env} (he : Env.Ok P e) {w0 : World} {n : Nat} {c : Code} {fr : Fr} {s : St} {k : Ex → Fr → St → Option β} {r : β} (h : ev P e n (.code c none fr s k) = some r) (hw : s.Wf) :
    ∃ ex fr' s', k ex fr' s' = some r ∧ s'.Wf ∧ ∀ a w, At w0 fr s a w → ∀ Q, (∀ a' w', At w0 fr' s' a' w' → Q (exC ex) a' w') → c.wpIn (FF none) 0 P Q a w := by
  obtain ⟨ex, fr', s', hk, hraw, hok⟩ := ev_ok he n _ _ h hw
  refine ⟨ex, fr', s', hk, hraw.wf, fun a w ⟨γ, st, hf, hn⟩ Q hQ => hok γ a w none trivial hf st.sat (fun id h1 _ => hn id h1) Q (fun γ' a' w' st' hf' => hQ a' w' ⟨γ', st.trans (Nat.zero_le _) hraw.next st', hf', fun id hid => ?_⟩)⟩
  by_cases hg : γ' id = none
  · exact hg
  · have := st'.dom id (hn id (by have := hraw.next; omega)) hg
    omega

/-! ### other symbols for the same -/
def nth {α : Type} : List α → Nat → Option α
  | [], _ => none
  | x :: _, 0 => some x
  | _ :: l, n + 1 => nth l n
theorem nth_lt {α : Type} : ∀ {l : List α} {i : Nat} {x : α}, nth l i = some x → i < l.length
  | [], _, _, h => nomatch h
  | _ :: _, 0, _, _ => Nat.succ_pos _
  | _ :: l, i + 1, _, h => Nat.succ_lt_succ (nth_lt (l := l) h)
theorem nth_none {α : Type} : ∀ {l : List α} {i : Nat}, l.length ≤ i → nth l i = none
  | [], _, _ => rfl
  | _ :: _, 0, h => nomatch h
  | _ :: l, i + 1, h => nth_none (l := l) (Nat.le_of_succ_le_succ h)

def isId (o : Option Nat) (b : Nat) : Bool := match o with
  | some c => Nat.beq c b
  | none => false
theorem isId_eq {o : Option Nat} {b : Nat} (h : isId o b = true) : o = some b := by
  cases o with
  | none => cases h
  | some c => rw [Nat.eq_of_beq_eq_true h]

def isSym (o : Option Value) (s1 : Nat) : Bool := match o with
  | some (.chan (some u)) => Nat.beq u s1
  | _ => false
theorem isSym_eq {o : Option Value} {s1 : Nat} (h : isSym o s1 = true) : o = some (.chan (some s1)) := by
  unfold isSym at h
  split at h
  · rw [Nat.eq_of_beq_eq_true h]
  · cases h
def isZero (o : Option Value) : Bool := match o with
  | some (.int .i64 (.ofNat 0)) => true
  | _ => false
theorem isZero_eq {o : Option Value} (h : isZero o = true) : o = some (.int .i64 0) := by
  unfold isZero at h
  split at h
  · rfl
  · cases h

/-- The new value says of what the old one means what the old one says: symbols stand for others (σ), names for others (π). -/
def trV (σ : List Value) (π : List Nat) : Nat → Value → Value → Bool
  | 0, _, _ => false
  | n + 1, v2, v1 => match v2 with
    | .chan (some s) => match nth σ s with
      | some u => sameV 4 u v1
      | none => false
    | .pointer (some ⟨b, o, none⟩) => match v1 with
      | .pointer (some ⟨b1, o1, none⟩) => cond (isId (nth π b) b1) (Nat.beq o o1) false
      | _ => false
    | .pointer (some ⟨b, s, some 2⟩) => match v1 with
      | .pointer (some ⟨b1, s1, some 2⟩) => cond (isId (nth π b) b1) (isSym (nth σ s) s1) false
      | .slice none 0 0 => isZero (nth σ s)
      | _ => false
    | .slice (some ⟨b, o, none⟩) l c => match v1 with
      | .slice (some ⟨b1, o1, none⟩) l1 c1 => cond (isId (nth π b) b1) (cond (Nat.beq o o1) (cond (Nat.beq l l1) (Nat.beq c c1) false) false) false
      | _ => false
    | .map (some b) => match v1 with
      | .map (some b1) => isId (nth π b) b1
      | _ => false
    | .map none => match v1 with
      | .map none => true
      | _ => false
    | .agg cs => match v1 with
      | .agg ds => sameL (trV σ π n) cs.toList ds.toList
      | _ => false
    | .tuple cs => match v1 with
      | .tuple ds => sameL (trV σ π n) cs.toList ds.toList
      | _ => false
    | .iface t v => match v1 with
      | .iface t1 u => cond (Nat.beq t t1) (trV σ π n v u) false
      | _ => false
    | .func (.func f) x y => match v1 with
      | .func (.func g) x1 y1 => cond (Nat.beq f g) (cond (sameL (trV σ π n) x.toList x1.toList) (sameL (trV σ π n) y.toList y1.toList) false) false
      | _ => false
    | .int k m => sameV 1 (.int k m) v1
    | .bool b => sameV 1 (.bool b) v1
    | .string b => sameV 1 (.string b) v1
    | .nilFunc => sameV 1 .nilFunc v1
    | .nilIface => sameV 1 .nilIface v1
    | .pointer none => sameV 1 (.pointer none) v1
    | .slice none l c => sameV 1 (.slice none l c) v1
    | _ => false

/-- What the new symbols stand for. -/
def SubOk (ρ1 ρ2 : Rho) : Nat → List Value → Prop
  | _, [] => True
  | i, u :: l => closed 3 u = true ∧ @den ρ1 3 u = ρ2.val i ∧ SubOk ρ1 ρ2 (i + 1) l
theorem SubOk.get {ρ1 ρ2 : Rho} : ∀ {l : List Value} {i j : Nat} {u : Value}, SubOk ρ1 ρ2 i l → nth l j = some u → closed 3 u = true ∧ @den ρ1 3 u = ρ2.val (i + j)
  | [], _, _, _, _, h => nomatch h
  | x :: l, i, 0, u, ⟨h1, h2, _⟩, h => by injection h with h; subst h; exact ⟨h1, h2⟩
  | x :: l, i, j + 1, u, ⟨_, _, h3⟩, h => by
    have := SubOk.get h3 (j := j) h
    rwa [show i + (j + 1) = i + 1 + j by omega]

theorem sameL_all {f : Value → Value → Bool} {Q : Value → Value → Prop} (hf : ∀ a b, f a b = true → Q a b) : ∀ {l m : List Value}, sameL f l m = true → l.length = m.length ∧ ∀ i (h1 : i < l.length) (h2 : i < m.length), Q l[i] m[i]
  | [], [], _ => ⟨rfl, fun i h1 _ => nomatch h1⟩
  | [], _ :: _, h => nomatch h
  | _ :: _, [], h => nomatch h
  | a :: as, b :: bs, h => by
    simp only [sameL] at h
    cases h1 : f a b with
    | false => rw [h1] at h; cases h
    | true =>
      rw [h1, cond_true] at h
      obtain ⟨e, g⟩ := sameL_all hf h
      refine ⟨by simp [e], fun i h2 h3 => ?_⟩
      cases i with
      | zero => exact hf a b h1
      | succ i => exact g i (Nat.lt_of_succ_lt_succ h2) (Nat.lt_of_succ_lt_succ h3)

section
variable {ρ1 ρ2 : Rho} {σ : List Value} {π : List Nat} {γ1 γ2 : Gam} (hσ : SubOk ρ1 ρ2 0 σ) (hπ : ∀ b b1, nth π b = some b1 → γ2 b = γ1 b1)
include hσ hπ

theorem trV_ok : ∀ (n : Nat) (v2 v1 v' : Value), trV σ π n v2 v1 = true → @VRel ρ1 γ1 v1 v' → @VRel ρ2 γ2 v2 v'
  | 0, _, _, _, h, _ => nomatch h
  | n + 1, v2, v1, v', h, hr => by
    have ih := trV_ok n
    have lists : ∀ {l m : List Value} {m' : List Value}, sameL (trV σ π n) l m = true → @LRel ρ1 γ1 m m' → @LRel ρ2 γ2 l m' := by
      intro l m m' hl hm
      obtain ⟨e, g⟩ := sameL_all (Q := fun a b => ∀ b', @VRel ρ1 γ1 b b' → @VRel ρ2 γ2 a b') (fun a b hab b' hb => ih a b b' hab hb) hl
      exact ⟨e.trans hm.1, fun i h1 h2 => g i h1 (by omega) _ (hm.2 i (by omega) h2)⟩
    have arrs : ∀ {l m : Array Value} {m' : Array Value}, sameL (trV σ π n) l.toList m.toList = true → m.size = m'.size → (∀ i (h1 : i < m.size) (h2 : i < m'.size), @VRel ρ1 γ1 m[i] m'[i]) → @ARel ρ2 γ2 l m' := by
      intro l m m' hl hs hm
      have := lists hl (@ARel.toList ρ1 γ1 m m' ⟨hs, hm⟩)
      exact ⟨by have := this.1; simpa using this, fun i h1 h2 => by
        have q := this.2 i (by simpa using h1) (by simpa using h2)
        simp only [Array.getElem_toList] at q
        exact q⟩
    unfold trV at h
    split at h
    · split at h
      · rename_i u hu
        obtain ⟨h1, h2⟩ := hσ.get hu
        have := sameV_eq 4 _ _ h
        subst this
        rw [@closed_eq ρ1 γ1 3 _ _ h1 hr, h2, Nat.zero_add]
        exact @VRel.sym ρ2 γ2 _
      · cases h
    · split at h
      · obtain ⟨h1, h2⟩ := cond_both h
        have := Nat.eq_of_beq_eq_true h2
        subst this
        have e := hπ _ _ (isId_eq h1)
        cases hr with
        | ptr o hg => exact @VRel.ptr ρ2 γ2 _ _ _ _ _ (by rw [e]; exact hg)
      · cases h
    · split at h
      · obtain ⟨h1, h2⟩ := cond_both h
        have e := hπ _ _ (isId_eq h1)
        obtain ⟨_, g2⟩ := hσ.get (isSym_eq h2)
        rw [Nat.zero_add] at g2
        cases hr with
        | lsl s n hg hs hn => exact @VRel.lsl ρ2 γ2 _ _ _ _ _ n (by rw [e]; exact hg) (g2.symm.trans hs) hn
        | lsn id s hs => exact @VRel.lsn ρ2 γ2 _ _ (g2.symm.trans hs)
      · obtain ⟨_, g2⟩ := hσ.get (isZero_eq h)
        rw [Nat.zero_add] at g2
        cases hr with
        | nilslice n c => exact @VRel.lsn ρ2 γ2 _ _ g2.symm
      · cases h
    · split at h
      · obtain ⟨h1, h2⟩ := cond_both h
        obtain ⟨h2, h3⟩ := cond_both h2
        obtain ⟨h3, h4⟩ := cond_both h3
        have e1 := Nat.eq_of_beq_eq_true h2
        have e2 := Nat.eq_of_beq_eq_true h3
        have e3 := Nat.eq_of_beq_eq_true h4
        subst e1 e2 e3
        have e := hπ _ _ (isId_eq h1)
        cases hr with
        | slice o n c hg hn => exact @VRel.slice ρ2 γ2 _ _ _ _ _ _ _ (by rw [e]; exact hg) hn
      · cases h
    · split at h
      · have e := hπ _ _ (isId_eq h)
        cases hr with
        | map hg => exact @VRel.map ρ2 γ2 _ _ _ _ (by rw [e]; exact hg)
      · cases h
    · split at h
      · cases hr; exact @VRel.nilmap ρ2 γ2
      · cases h
    · split at h
      · cases hr with
        | agg f f' hs hv => have := arrs h hs hv; exact @VRel.agg ρ2 γ2 _ _ this.1 this.2
      · cases h
    · split at h
      · cases hr with
        | tuple f f' hs hv => have := arrs h hs hv; exact @VRel.tuple ρ2 γ2 _ _ this.1 this.2
      · cases h
    · split at h
      · obtain ⟨h1, h2⟩ := cond_both h
        have := Nat.eq_of_beq_eq_true h1
        subst this
        cases hr with
        | iface t hv => exact @VRel.iface ρ2 γ2 _ _ _ (ih _ _ _ h2 hv)
      · cases h
    · split at h
      · obtain ⟨h1, h2⟩ := cond_both h
        obtain ⟨h2, h3⟩ := cond_both h2
        have := Nat.eq_of_beq_eq_true h1
        subst this
        cases hr with
        | func fn hf f f' c c' hs hv gs gv =>
          have q1 := arrs h2 hs hv
          have q2 := arrs h3 gs gv
          exact @VRel.func ρ2 γ2 _ (by simp) _ _ _ _ q1.1 q1.2 q2.1 q2.2
      · cases h
    all_goals first
      | (have e := sameV_eq 1 _ _ h
         subst e
         cases hr
         first | exact @VRel.int ρ2 γ2 _ _ | exact @VRel.bool ρ2 γ2 _ | exact @VRel.string ρ2 γ2 _ | exact @VRel.nilfunc ρ2 γ2 | exact @VRel.niliface ρ2 γ2 | exact @VRel.nilptr ρ2 γ2 | exact @VRel.nilslice ρ2 γ2 _ _)
      | cases h
end

/-! ### blocks -/
def trEs (σ : List Value) (π : List Nat) : List MapEntry → List MapEntry → Bool
  | [], [] => true
  | x :: l, y :: m => cond (trV σ π 8 x.key y.key) (cond (trV σ π 8 x.val y.val) (cond (Nat.beq x.born y.born) (trEs σ π l m) false) false) false
  | _, _ => false
def trB (σ : List Value) (π : List Nat) : AB → AB → Bool
  | .dead, _ => true
  | .cells c t room ro, .cells c1 t1 room1 ro1 => cond (sameL (trV σ π 8) c c1) (cond (Nat.beq t t1) (cond (sameO room room1) (sameB ro ro1) false) false) false
  | .mark, .mark => true
  | .map es k, .map es1 k1 => cond (Nat.beq k k1) (trEs σ π es es1) false
  | _, _ => false

section
variable {ρ1 ρ2 : Rho} {σ : List Value} {π : List Nat} {γ1 γ2 : Gam} (hσ : SubOk ρ1 ρ2 0 σ) (hπ : ∀ b b1, nth π b = some b1 → γ2 b = γ1 b1)

include hσ hπ in
theorem trL_ok {l m m' : List Value} (h : sameL (trV σ π 8) l m = true) (hm : @LRel ρ1 γ1 m m') : @LRel ρ2 γ2 l m' := by
  obtain ⟨e, g⟩ := sameL_all (Q := fun a b => ∀ b', @VRel ρ1 γ1 b b' → @VRel ρ2 γ2 a b') (fun a b hab b' hb => trV_ok hσ hπ 8 a b b' hab hb) h
  exact ⟨e.trans hm.1, fun i h1 h2 => g i h1 (by omega) _ (hm.2 i (by omega) h2)⟩

include hσ hπ in
theorem trEs_ok : ∀ {l m m' : List MapEntry}, trEs σ π l m = true → @ERel ρ1 γ1 m m' → @ERel ρ2 γ2 l m'
  | [], [], m', _, hm => ⟨hm.1, fun i h1 _ => nomatch h1⟩
  | [], _ :: _, _, h, _ => nomatch h
  | _ :: _, [], _, h, _ => nomatch h
  | x :: l, y :: m, m', h, hm => by
    simp only [trEs] at h
    obtain ⟨h1, h2⟩ := cond_both h
    obtain ⟨h2, h3⟩ := cond_both h2
    obtain ⟨h3, h4⟩ := cond_both h3
    cases m' with
    | nil => have := hm.1; simp at this
    | cons z m' =>
      have h0 := hm.2 0 (by simp) (by simp)
      simp only [List.getElem_cons_zero] at h0
      have ht : @ERel ρ1 γ1 m m' := ⟨by have := hm.1; simpa using this, fun j q1 q2 => hm.2 (j + 1) (Nat.succ_lt_succ q1) (Nat.succ_lt_succ q2)⟩
      have ih := trEs_ok h4 ht
      refine ⟨by simp [ih.1], fun i q1 q2 => ?_⟩
      cases i with
      | zero => exact ⟨trV_ok hσ hπ 8 _ _ _ h1 h0.1, trV_ok hσ hπ 8 _ _ _ h2 h0.2.1, (Nat.eq_of_beq_eq_true h3).trans h0.2.2⟩
      | succ i => exact ih.2 i (Nat.lt_of_succ_lt_succ q1) (Nat.lt_of_succ_lt_succ q2)

include hσ hπ in
theorem trB_ok {w : World} {id id1 : Nat} {b b1 : AB} (h : trB σ π b b1 = true) (hid : γ2 id = γ1 id1) (hb : @SatB ρ1 γ1 w id1 b1) : @SatB ρ2 γ2 w id b := by
  unfold trB at h
  split at h
  · trivial
  · obtain ⟨h1, h2⟩ := cond_both h
    obtain ⟨h2, h3⟩ := cond_both h2
    obtain ⟨h3, h4⟩ := cond_both h3
    have e1 := Nat.eq_of_beq_eq_true h2
    have e2 := sameO_eq h3
    have e3 := sameB_eq h4
    subst e1 e2 e3
    obtain ⟨B, O, C, arr, q1, q2, q3, q4, q5⟩ := hb
    obtain ⟨e, g⟩ := sameL_all (Q := fun a b => ∀ b', @VRel ρ1 γ1 b b' → @VRel ρ2 γ2 a b') (fun a b hab b' hb => trV_ok hσ hπ 8 a b b' hab hb) h1
    exact ⟨B, O, C, arr, hid.trans q1, q2, by rw [e]; exact q3, fun i hi => let ⟨v', r1, r2⟩ := q4 i (by rw [← e]; exact hi); ⟨v', r1, g i hi (by rw [← e]; exact hi) v' r2⟩, fun sz hsz => by rw [e]; exact q5 sz hsz⟩
  · obtain ⟨B, O, C, q1, q2⟩ := hb
    exact ⟨B, O, C, hid.trans q1, q2⟩
  · obtain ⟨h1, h2⟩ := cond_both h
    have e1 := Nat.eq_of_beq_eq_true h1
    subst e1
    obtain ⟨B, O, C, es', q1, q2, q3⟩ := @SatB.map_inv ρ1 γ1 w id1 _ _ hb
    have := trEs_ok hσ hπ h2 q3
    exact ⟨B, O, C, es', hid.trans q1, q2, by simpa using this.1, fun i hi hi' => by
      have q := this.2 i hi (by simpa using hi')
      simp only [Array.getElem_toList] at q
      exact q⟩
  · cases h

end
theorem trB_alive {σ : List Value} {π : List Nat} {b b1 : AB} (h : trB σ π b b1 = true) (hb : b.alive = true) : b1.alive = true ∧ b1.own = b.own := by
  unfold trB at h
  split at h
  · cases hb
  · obtain ⟨h1, h2⟩ := cond_both h
    obtain ⟨h2, h3⟩ := cond_both h2
    obtain ⟨h3, h4⟩ := cond_both h3
    rw [sameB_eq h4]
    exact ⟨rfl, rfl⟩
  · exact ⟨rfl, rfl⟩
  · exact ⟨rfl, rfl⟩
  · cases h

def allN : Nat → (Nat → Bool) → Bool
  | 0, _ => true
  | n + 1, f => cond (f n) (allN n f) false
theorem allN_ok {f : Nat → Bool} : ∀ {n : Nat}, allN n f = true → ∀ i, i < n → f i = true
  | 0, _, _, h => nomatch h
  | n + 1, h, i, hi => by
    simp only [allN] at h
    obtain ⟨h1, h2⟩ := cond_both h
    by_cases e : i = n
    · subst e; exact h1
    · exact allN_ok h2 i (by omega)
def distinctN : List Nat → Bool
  | [] => true
  | x :: l => cond (memN x l) false (distinctN l)
theorem distinctN_ok : ∀ {l : List Nat}, distinctN l = true → ∀ i j x, nth l i = some x → nth l j = some x → i = j
  | [], _, _, _, _, h, _ => nomatch h
  | y :: l, h, i, j, x, hi, hj => by
    simp only [distinctN] at h
    cases hm : memN y l with
    | true => rw [hm] at h; cases h
    | false =>
      rw [hm, cond_false] at h
      have mem : ∀ (l : List Nat) (k : Nat), nth l k = some x → memN x l = true := by
        intro l
        induction l with
        | nil => intro k hk; cases hk
        | cons z l ih =>
          intro k hk
          cases k with
          | zero => injection hk with hk; subst hk; simp [memN]
          | succ k => simp only [memN]; rw [ih k hk]; cases Nat.beq x z <;> rfl
      cases i with
      | zero =>
        injection hi with hi; subst hi
        cases j with
        | zero => rfl
        | succ j => rw [mem l j hj] at hm; cases hm
      | succ i =>
        cases j with
        | zero => injection hj with hj; subst hj; rw [mem l i hi] at hm; cases hm
        | succ j => rw [distinctN_ok h i j x hi hj]

/-- What the new lists are: old ones, or empty. -/
def LsubOk (ρ1 ρ2 : Rho) : Nat → List (Option Nat) → Prop
  | _, [] => True
  | i, some k :: l => ρ2.lst i = ρ1.lst k ∧ LsubOk ρ1 ρ2 (i + 1) l
  | i, none :: l => ρ2.lst i = [] ∧ LsubOk ρ1 ρ2 (i + 1) l
theorem LsubOk.get {ρ1 ρ2 : Rho} : ∀ {l : List (Option Nat)} {i j k : Nat}, LsubOk ρ1 ρ2 i l → nth l j = some (some k) → ρ2.lst (i + j) = ρ1.lst k
  | [], _, _, _, _, h => nomatch h
  | some x :: l, i, 0, k, ⟨h1, _⟩, h => by injection h with h; injection h with h; subst h; exact h1
  | none :: l, i, 0, k, _, h => by injection h with h; cases h
  | some x :: l, i, j + 1, k, ⟨_, h3⟩, h => by
    have := LsubOk.get h3 (j := j) h
    rwa [show i + (j + 1) = i + 1 + j by omega]
  | none :: l, i, j + 1, k, ⟨_, h3⟩, h => by
    have := LsubOk.get h3 (j := j) h
    rwa [show i + (j + 1) = i + 1 + j by omega]
theorem LsubOk.emp {ρ1 ρ2 : Rho} : ∀ {l : List (Option Nat)} {i j : Nat}, LsubOk ρ1 ρ2 i l → nth l j = some none → ρ2.lst (i + j) = []
  | [], _, _, _, h => nomatch h
  | some x :: l, i, 0, _, h => by injection h with h; cases h
  | none :: l, i, 0, ⟨h1, _⟩, h => h1
  | some x :: l, i, j + 1, ⟨_, h3⟩, h => by
    have := LsubOk.emp h3 (j := j) h
    rwa [show i + (j + 1) = i + 1 + j by omega]
  | none :: l, i, j + 1, ⟨_, h3⟩, h => by
    have := LsubOk.emp h3 (j := j) h
    rwa [show i + (j + 1) = i + 1 + j by omega]
def isOld (o : Option (Option Nat)) (k : Nat) : Bool := match o with
  | some (some j) => Nat.beq j k
  | _ => false
theorem isOld_eq {o : Option (Option Nat)} {k : Nat} (h : isOld o k = true) : o = some (some k) := by
  unfold isOld at h
  split at h
  · rw [Nat.eq_of_beq_eq_true h]
  · cases h
def isEmp (o : Option (Option Nat)) : Bool := match o with
  | some none => true
  | _ => false
theorem isEmp_eq {o : Option (Option Nat)} (h : isEmp o = true) : o = some none := by
  unfold isEmp at h
  split at h
  · rfl
  · cases h
def trBL (σ : List Value) (π : List Nat) (τ : List (Option Nat)) (n1 id1 : Nat) : AB → AB → Bool
  | .lst k t sz, .lst k1 t1 sz1 => cond (isOld (nth τ k) k1) (cond (Nat.beq t t1) (Nat.beq sz sz1) false) false
  | .lst k _ _, .dead => cond (isEmp (nth τ k)) (Nat.ble n1 id1) false
  | b2, b1 => trB σ π b2 b1

/-- Does the new frame and state say only what the old one says? -/
def agreeL (σ : List Value) (π : List Nat) (τ : List (Option Nat)) (fr2 : Fr) (s2 : St) (fr1 : Fr) (s1 : St) : Bool :=
  cond (Nat.beq fr2.T.n fr1.T.n) (cond (Nat.beq fr2.T.d fr1.T.d) (cond (eqNs (fr2.D.map fun b => (nth π b).getD 0) fr1.D) (cond (Nat.beq π.length s2.next) (cond (fr2.D.all fun b => Nat.blt b s2.next) (cond (distinctN π)
    (cond (allN fr2.T.n fun t => match tget fr2.T t with
        | none => true
        | some v2 => match tget fr1.T t with
          | some v1 => trV σ π 8 v2 v1
          | none => false)
      (allN s2.next fun b => match s2.at b with
        | .dead => true
        | b2 => match nth π b with
          | some b1 => trBL σ π τ s1.next b1 b2 (s1.at b1)
          | none => false) false) false) false) false) false) false) false

def agree (σ : List Value) (π : List Nat) (fr2 : Fr) (s2 : St) (fr1 : Fr) (s1 : St) : Bool := agreeL σ π [] fr2 s2 fr1 s1

theorem trBL_cases {ρ1 ρ2 : Rho} {σ : List Value} {π : List Nat} {τ : List (Option Nat)} {γ1 : Gam} {n1 id1 : Nat} {b2 b1 : AB} (hτ : LsubOk ρ1 ρ2 0 τ) (hn : ∀ id, n1 ≤ id → γ1 id = none) (h : trBL σ π τ n1 id1 b2 b1 = true) :
    trB σ π b2 b1 = true ∨ (∃ k k1 t sz, b2 = .lst k t sz ∧ b1 = .lst k1 t sz ∧ ρ2.lst k = ρ1.lst k1) ∨ (∃ k t sz, b2 = .lst k t sz ∧ ρ2.lst k = [] ∧ γ1 id1 = none) := by
  unfold trBL at h
  split at h
  · obtain ⟨h1, h2⟩ := cond_both h
    obtain ⟨h2, h3⟩ := cond_both h2
    have e1 := Nat.eq_of_beq_eq_true h2
    have e2 := Nat.eq_of_beq_eq_true h3
    subst e1 e2
    have := hτ.get (isOld_eq h1)
    rw [Nat.zero_add] at this
    exact .inr (.inl ⟨_, _, _, _, rfl, rfl, this⟩)
  · obtain ⟨h1, h2⟩ := cond_both h
    have := hτ.emp (isEmp_eq h1)
    rw [Nat.zero_add] at this
    exact .inr (.inr ⟨_, _, _, rfl, this, hn _ (Nat.le_of_ble_eq_true h2)⟩)
  · exact .inl h

theorem At.shiftL {ρ1 ρ2 : Rho} {w0 : World} {fr1 fr2 : Fr} {s1 s2 : St} {a : Act} {w : World} {σ : List Value} {π : List Nat} {τ : List (Option Nat)} (hσ : SubOk ρ1 ρ2 0 σ) (hτ : LsubOk ρ1 ρ2 0 τ) (hm : ∀ B o, ρ2.mem B = some o → ρ1.mem B = some o)
    (hw : s2.Wf) (h : agreeL σ π τ fr2 s2 fr1 s1 = true) (hat : @At ρ1 w0 fr1 s1 a w) : @At ρ2 w0 fr2 s2 a w := by
  obtain ⟨γ1, ⟨_, _, size1, frame1, own1, ⟨blk1, frz1, inj1⟩, os1, tape1, output1, ro1⟩, ⟨⟨t1, t2, t3, t4⟩, hfD⟩, hn⟩ := hat
  unfold agreeL at h
  obtain ⟨h1, h⟩ := cond_both h
  obtain ⟨h2, h⟩ := cond_both h
  obtain ⟨h3, h⟩ := cond_both h
  obtain ⟨h4, h⟩ := cond_both h
  obtain ⟨h5, h⟩ := cond_both h
  obtain ⟨h6, h⟩ := cond_both h
  obtain ⟨h7, h8⟩ := cond_both h
  have e1 := Nat.eq_of_beq_eq_true h1
  have e2 := Nat.eq_of_beq_eq_true h2
  have e4 := Nat.eq_of_beq_eq_true h4
  let γ2 : Gam := fun id => (nth π id).bind γ1
  have hπ : ∀ b b1, nth π b = some b1 → γ2 b = γ1 b1 := fun b b1 hb => by show (nth π b).bind γ1 = γ1 b1; rw [hb]; rfl
  have hout : ∀ id, s2.next ≤ id → γ2 id = none := fun id hid => by show (nth π id).bind γ1 = none; rw [nth_none (by omega)]; rfl
  have blk0 : ∀ id, (s2.at id).alive = true → ∃ id1, nth π id = some id1 ∧ trBL σ π τ s1.next id1 (s2.at id) (s1.at id1) = true := by
    intro id ha
    have hlt : id < s2.next := by
      rcases Nat.lt_or_ge id s2.next with q | q
      · exact q
      · rw [show s2.at id = .dead from at_raw_dead (hw.fresh id q)] at ha; cases ha
    have := allN_ok h8 id hlt
    split at this
    · rename_i hd; rw [hd] at ha; cases ha
    · split at this
      · exact ⟨_, by assumption, this⟩
      · cases this
  have blk : ∀ id, (s2.at id).alive = true → ∃ id1, nth π id = some id1 ∧ (@SatB ρ2 γ2 w id (s2.at id)) ∧ (γ1 id1 = none ∧ (s2.at id).own = true ∨ (s1.at id1).alive = true ∧ (s1.at id1).own = (s2.at id).own) := by
    intro id ha
    obtain ⟨id1, r1, r2⟩ := blk0 id ha
    refine ⟨id1, r1, ?_⟩
    rcases trBL_cases (γ1 := γ1) hτ hn r2 with r2 | ⟨k, k1, t, sz, e1, e2, e3⟩ | ⟨k, t, sz, e1, e2, e3⟩
    · exact ⟨trB_ok hσ hπ r2 (hπ id id1 r1) (blk1 id1), .inr (trB_alive r2 ha)⟩
    · have hb := blk1 id1
      rw [e2] at hb
      rw [e1, e2]
      refine ⟨?_, .inr ⟨rfl, rfl⟩⟩
      rcases hb with ⟨q1, q2⟩ | ⟨B, O, C, arr, q1, q2⟩
      · exact .inl ⟨e3.trans q1, (hπ id id1 r1).trans q2⟩
      · refine .inr ⟨B, O, C, arr, (hπ id id1 r1).trans q1, ?_⟩
        rw [e3]; exact q2
    · rw [e1]
      exact ⟨.inl ⟨e2, (hπ id id1 r1).trans e3⟩, .inl ⟨e3, rfl⟩⟩
  have own : ∀ B, Own γ2 s2.at B → Own γ1 s1.at B := by
    rintro B ⟨id, O, C, q1, q2⟩
    obtain ⟨id1, r1, _, r2⟩ := blk id (AB.alive_of_own q1)
    rw [hπ id id1 r1] at q2
    rcases r2 with ⟨r2, _⟩ | ⟨_, r2⟩
    · rw [r2] at q2; cases q2
    · exact ⟨id1, O, C, by rw [r2]; exact q1, q2⟩
  refine ⟨γ2, ⟨(fun id x q => nomatch q), fun id _ q => ⟨Nat.zero_le _, ?_⟩, size1, frame1, fun B ho => own1 B (own B ho), ⟨fun id => ?_, fun B o q => ?_, fun i j B O C O' C' ai aj ei ej => ?_⟩, os1, tape1, output1, fun id q1 q2 => ?_⟩, ⟨⟨?_, rfl, ?_, fun t v hv => ?_⟩, ?_⟩, hout⟩
  · rcases Nat.lt_or_ge id s2.next with q' | q'
    · exact q'
    · exact absurd (hout id q') q
  · cases ha : (s2.at id).alive with
    | false => cases hb : s2.at id <;> rw [hb] at ha <;> first | trivial | cases ha
    | true =>
      obtain ⟨id1, r1, r2, _⟩ := blk id ha
      exact r2
  · obtain ⟨r1, r2⟩ := frz1 B o (hm B o q)
    exact ⟨r1, fun ho => r2 (own B ho)⟩
  · obtain ⟨i1, r1, _, r2⟩ := blk i ai
    obtain ⟨j1, r3, _, r4⟩ := blk j aj
    rw [hπ i i1 r1] at ei
    rw [hπ j j1 r3] at ej
    have a1 : (s1.at i1).alive = true := by rcases r2 with ⟨q, _⟩ | ⟨q, _⟩; (rw [q] at ei; cases ei); exact q
    have a2 : (s1.at j1).alive = true := by rcases r4 with ⟨q, _⟩ | ⟨q, _⟩; (rw [q] at ej; cases ej); exact q
    have : i1 = j1 := inj1 i1 j1 B O C O' C' a1 a2 ei ej
    subst this
    exact distinctN_ok h6 i j i1 r1 r3
  · obtain ⟨id1, r1, _, r2⟩ := blk id q1
    rcases r2 with ⟨_, r3⟩ | r3
    · rw [r3] at q2; cases q2
    · have q3 := ro1 id1 r3.1 (r3.2.trans q2)
      rw [q3, start_at] at r3
      cases r3.1
  · rw [e1]; exact t1
  · rw [e1, e2]; exact t3
  · have ht := tget_lt hv
    have := allN_ok h7 t ht
    rw [hv] at this
    simp only at this
    split at this
    · rename_i v1 hv1
      exact trV_ok hσ hπ 8 v v1 _ this (t4 t v1 hv1)
    · cases this
  · have hD := eqNs_eq _ _ h3
    have hDall : ∀ b ∈ fr2.D, b < s2.next := fun b hb => Nat.le_of_ble_eq_true (List.all_eq_true.1 h5 b hb)
    rw [← hD] at hfD
    clear hD h5
    generalize a.defers = ds at hfD ⊢
    generalize fr2.D = D at hfD hDall ⊢
    induction D generalizing ds with
    | nil => cases ds with
      | nil => trivial
      | cons d ds => exact False.elim hfD
    | cons b D ih => cases ds with
      | nil => exact False.elim hfD
      | cons d ds =>
        simp only [List.map_cons] at hfD
        obtain ⟨⟨B, O, C, q1, q2⟩, q3⟩ := hfD
        have hb : b < π.length := by have := hDall b (by simp); omega
        refine ⟨⟨B, O, C, ?_, q2⟩, ih ds q3 (fun x hx => hDall x (List.mem_cons_of_mem _ hx))⟩
        cases hn : nth π b with
        | none => exact absurd hb (by
            have key : ∀ (l : List Nat) (i : Nat), nth l i = none → l.length ≤ i := by
              intro l
              induction l with
              | nil => intro i _; exact Nat.zero_le _
              | cons x l ih => intro i hi; cases i with
                | zero => cases hi
                | succ i => exact Nat.succ_le_succ (ih i hi)
            have := key π b hn
            omega)
        | some b1 => rw [hn] at q1; rw [hπ b b1 hn]; exact q1

theorem At.shift {ρ1 ρ2 : Rho} {w0 : World} {fr1 fr2 : Fr} {s1 s2 : St} {a : Act} {w : World} {σ : List Value} {π : List Nat} (hσ : SubOk ρ1 ρ2 0 σ) (hm : ∀ B o, ρ2.mem B = some o → ρ1.mem B = some o)
    (hw : s2.Wf) (h : agree σ π fr2 s2 fr1 s1 = true) (hat : @At ρ1 w0 fr1 s1 a w) : @At ρ2 w0 fr2 s2 a w := At.shiftL (τ := []) hσ trivial hm hw h hat
end Go.Ev
