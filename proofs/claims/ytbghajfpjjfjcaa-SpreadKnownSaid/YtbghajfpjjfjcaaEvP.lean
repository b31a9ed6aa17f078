/- An evaluator of closed Go code, part 15: a region that draws its order comes, in whatever order, to where the order of the text comes. -/
import Derived.Test.YtbghajfpjjfjcaaEvO
set_option linter.unusedSimpArgs false
set_option linter.unusedVariables false
namespace Go.Ev
open Go Go.RowKit
variable [Rho]

theorem Step.widen {lo hi lo' hi' : Nat} {γ γ' : Gam} {h h' : Hp} {w w' : World} (s : Step lo' hi' γ h w γ' h' w') (h1 : lo ≤ lo') (h2 : hi' ≤ hi) : Step lo hi γ h w γ' h' w' :=
  ⟨s.le, fun id a b => by have := s.dom id a b; omega, s.size, s.frame, s.own, s.sat, s.os, s.tape, s.output, s.ro⟩

theorem Step.join {lo hi : Nat} {γ γ₁ γ₂ : Gam} {h h₁ h₂ : Hp} {w w₁ w₂ : World} (a : Step lo hi γ h w γ₁ h₁ w₁) (b : Step lo hi γ₁ h₁ w₁ γ₂ h₂ w₂) : Step lo hi γ h w γ₂ h₂ w₂ := by
  refine ⟨Gam.le_trans a.le b.le, fun id e e2 => ?_, Nat.le_trans a.size b.size, fun B hB ho => ?_, fun B ho => ?_, b.sat, b.os.trans a.os, b.tape.trans a.tape, b.output.trans a.output, fun id h1 h2 => by have e := b.ro id h1 h2; rw [e] at h1 h2 ⊢; exact a.ro id h1 h2⟩
  · by_cases h1 : γ₁ id = none
    · exact b.dom id h1 e2
    · exact a.dom id e h1
  · rw [b.frame B (Nat.lt_of_lt_of_le hB a.size) (fun ho1 => ?_), a.frame B hB ho]
    rcases a.own B ho1 with h | h
    · exact ho h
    · omega
  · rcases b.own B ho with h | h
    · exact a.own B h
    · exact .inr (Nat.le_trans a.size h)

def ks (h : Nat → Hp) (W : Nat → Nat → Bool) (S : Nat → Bool) : Nat → Hp
  | 0 => h 0
  | m + 1 => fun id => if S m = true ∧ W m id = true then h (m + 1) id else ks h W S m id

def us (u : Nat → Nat → Option Value) (dst : Nat → Option Tmp) (S : Nat → Bool) : Nat → Nat → Option Value
  | 0 => u 0
  | m + 1 => fun t => if S m = true ∧ dst m = some t then u (m + 1) t else us u dst S m t

section
variable {h : Nat → Hp} {W : Nat → Nat → Bool} {N : Nat}

omit [Rho] in
theorem ks_agree (H1 : ∀ m, m < N → ∀ id, W m id = false → h (m + 1) id = h m id) {S : Nat → Bool} {i id : Nat} (hi : i ≤ N) (hs : ∀ j, j < N → W j id = true → (S j = true ↔ j < i)) : ks h W S N id = h i id := by
  have low : ∀ m, m ≤ i → ks h W S m id = h m id := by
    intro m
    induction m with
    | zero => intro _; rfl
    | succ m ih =>
      intro hm
      simp only [ks]
      cases hw : W m id with
      | true => rw [if_pos ⟨(hs m (by omega) hw).2 (by omega), rfl⟩]
      | false => rw [if_neg (by simp), ih (by omega), H1 m (by omega) id hw]
  have high : ∀ d, i + d ≤ N → ks h W S (i + d) id = ks h W S i id := by
    intro d
    induction d with
    | zero => intro _; rfl
    | succ d ih =>
      intro hd
      show ks h W S (i + d + 1) id = _
      simp only [ks]
      rw [if_neg ?_, ih (by omega)]
      intro ⟨h1, h2⟩
      have := (hs (i + d) (by omega) h2).1 h1
      omega
  have := high (N - i) (by omega)
  rw [show i + (N - i) = N by omega] at this
  rw [this, low i (Nat.le_refl _)]

omit [Rho] in
theorem ks_insert {S S' : Nat → Bool} {i : Nat} (hi : i < N) (hSi : S i = false) (hS' : ∀ j, S' j = (S j || decide (j = i))) (hno : ∀ id, W i id = true → ∀ j, i < j → j < N → W j id = true → S j = false) :
    ks h W S' N = fun id => if W i id = true then h (i + 1) id else ks h W S N id := by
  funext id
  have low : ∀ m, m ≤ i → ks h W S' m id = ks h W S m id := by
    intro m
    induction m with
    | zero => intro _; rfl
    | succ m ih =>
      intro hm
      have e : S' m = S m := by rw [hS' m]; simp [show ¬ m = i by omega]
      simp only [ks, e, ih (by omega)]
  have at1 : ks h W S' (i + 1) id = if W i id = true then h (i + 1) id else ks h W S (i + 1) id := by
    have e : S' i = true := by rw [hS' i]; simp
    simp only [ks, e, hSi, true_and, Bool.false_eq_true, false_and, if_false, low i (Nat.le_refl _)]
  have high : ∀ d, i + 1 + d ≤ N → ks h W S' (i + 1 + d) id = if W i id = true then h (i + 1) id else ks h W S (i + 1 + d) id := by
    intro d
    induction d with
    | zero => intro _; exact at1
    | succ d ih =>
      intro hd
      have e : S' (i + 1 + d) = S (i + 1 + d) := by rw [hS']; simp [show ¬ i + 1 + d = i by omega]
      show ks h W S' (i + 1 + d + 1) id = if W i id = true then h (i + 1) id else ks h W S (i + 1 + d + 1) id
      simp only [ks, e, ih (by omega)]
      by_cases hw : W i id = true
      · simp only [hw, if_true]
        rw [if_neg]
        intro ⟨h1, h2⟩
        have := hno id hw (i + 1 + d) (by omega) (by omega) h2
        rw [this] at h1; cases h1
      · simp only [hw, if_false]
        try rfl
  have := high (N - (i + 1)) (by omega)
  rw [show i + 1 + (N - (i + 1)) = N by omega] at this
  exact this

omit [Rho] in
theorem us_agree {u : Nat → Nat → Option Value} {dst : Nat → Option Tmp} (H2 : ∀ m, m < N → ∀ t, dst m ≠ some t → u (m + 1) t = u m t) {S : Nat → Bool} {i t : Nat} (hi : i ≤ N)
    (hs : ∀ j, j < N → dst j = some t → (S j = true ↔ j < i)) : us u dst S N t = u i t := by
  have low : ∀ m, m ≤ i → us u dst S m t = u m t := by
    intro m
    induction m with
    | zero => intro _; rfl
    | succ m ih =>
      intro hm
      simp only [us]
      by_cases hw : dst m = some t
      · rw [if_pos ⟨(hs m (by omega) hw).2 (by omega), hw⟩]
      · rw [if_neg (fun q => hw q.2), ih (by omega), H2 m (by omega) t hw]
  have high : ∀ d, i + d ≤ N → us u dst S (i + d) t = us u dst S i t := by
    intro d
    induction d with
    | zero => intro _; rfl
    | succ d ih =>
      intro hd
      show us u dst S (i + d + 1) t = _
      simp only [us]
      rw [if_neg ?_, ih (by omega)]
      intro ⟨h1, h2⟩
      have := (hs (i + d) (by omega) h2).1 h1
      omega
  have := high (N - i) (by omega)
  rw [show i + (N - i) = N by omega] at this
  rw [this, low i (Nat.le_refl _)]

omit [Rho] in
theorem us_insert {u : Nat → Nat → Option Value} {dst : Nat → Option Tmp} {S S' : Nat → Bool} {i t : Nat} (hi : i < N) (hSi : S i = false) (hS' : ∀ j, S' j = (S j || decide (j = i)))
    (hno : dst i = some t → ∀ j, i < j → j < N → dst j = some t → S j = false) :
    us u dst S' N t = if dst i = some t then u (i + 1) t else us u dst S N t := by
  have low : ∀ m, m ≤ i → us u dst S' m t = us u dst S m t := by
    intro m
    induction m with
    | zero => intro _; rfl
    | succ m ih =>
      intro hm
      have e : S' m = S m := by rw [hS' m]; simp [show ¬ m = i by omega]
      simp only [us, e, ih (by omega)]
  have at1 : us u dst S' (i + 1) t = if dst i = some t then u (i + 1) t else us u dst S (i + 1) t := by
    have e : S' i = true := by rw [hS' i]; simp
    simp only [us, e, hSi, true_and, Bool.false_eq_true, false_and, if_false, low i (Nat.le_refl _)]
  have high : ∀ d, i + 1 + d ≤ N → us u dst S' (i + 1 + d) t = if dst i = some t then u (i + 1) t else us u dst S (i + 1 + d) t := by
    intro d
    induction d with
    | zero => intro _; exact at1
    | succ d ih =>
      intro hd
      have e : S' (i + 1 + d) = S (i + 1 + d) := by rw [hS']; simp [show ¬ i + 1 + d = i by omega]
      show us u dst S' (i + 1 + d + 1) t = if dst i = some t then u (i + 1) t else us u dst S (i + 1 + d + 1) t
      simp only [us, e, ih (by omega)]
      by_cases hw : dst i = some t
      · simp only [hw, if_true]
        rw [if_neg]
        intro ⟨h1, h2⟩
        have := hno hw (i + 1 + d) (by omega) (by omega) h2
        rw [this] at h1; cases h1
      · simp only [hw, if_false]
        try rfl
  have := high (N - (i + 1)) (by omega)
  rw [show i + 1 + (N - (i + 1)) = N by omega] at this
  exact this
end

/-- What is listed holds all that it waits for. -/
def Closed (ops : Array Oper) (S : Nat → Bool) : Prop := ∀ j o, ops[j]? = some o → S j = true → ∀ e ∈ o.after, Region.binds .any e = true → S e.on = true
def Waits (ops : Array Oper) (S : Nat → Bool) (j : Nat) : Prop := ∀ o, ops[j]? = some o → ∀ e ∈ o.after, Region.binds .any e = true → S e.on = true
def Before (ops : Array Oper) (i j : Nat) : Prop := ∀ S, Closed ops S → Waits ops S j → S i = true

theorem draw_any {P : Program} {ops : Array Oper} {roC : Option Nat} {Q : Exit → Act → World → Prop} {n : Nat} {ds : List Deferred} {h : Nat → Hp} {u : Nat → Nat → Option Value} {lo : Nat → Nat} {W L : Nat → Nat → Bool}
    {dst : Nat → Option Tmp} {looks : Nat → List Tmp}
    (hmono : ∀ m, m < ops.size → lo m ≤ lo (m + 1))
    (H1 : ∀ m, m < ops.size → ∀ id, W m id = false → h (m + 1) id = h m id)
    (H2 : ∀ m, m < ops.size → ∀ t, dst m ≠ some t → u (m + 1) t = u m t)
    (HWn : ∀ m, m < ops.size → ∀ id, lo m ≤ id → id < lo (m + 1) → W m id = true)
    (HWl : ∀ m, m < ops.size → ∀ id, W m id = true → L m id = true ∨ (lo m ≤ id ∧ id < lo (m + 1)))
    (HL : ∀ m, m < ops.size → ∀ id, L m id = true → id < lo m)
    (Hnew : ∀ id, lo 0 ≤ id → h 0 id = .dead)
    (Hop : ∀ m, m < ops.size → ∀ (γ : Gam) (K : Hp) (a : Act) (w : World), Sat γ K w → (∀ id, L m id = true → K id = h m id) → (∀ id, lo m ≤ id → id < lo (m + 1) → K id = .dead) →
      (∀ t ∈ looks m, ∀ v, u m t = some v → VRel γ v (a.tmps.getD t undef)) → a.tmps.size = n → (∀ id, lo m ≤ id → id < lo (m + 1) → γ id = none) →
      ∀ Kont : Act → World → Prop, (∀ γ' w' a', Step (lo m) (lo (m + 1)) γ K w γ' (fun id => if W m id = true then h (m + 1) id else K id) w' → a'.defers = a.defers → a'.tmps.size = n →
        (∀ t, dst m ≠ some t → a'.tmps.getD t undef = a.tmps.getD t undef) → (∀ t v, dst m = some t → u (m + 1) t = some v → VRel γ' v (a'.tmps.getD t undef)) → Kont a' w') →
      wpOpIn (FF roC) 0 P ops Q m Kont a w)
    (Hcfl : ∀ i j, i < j → j < ops.size → (∃ id, W i id = true ∧ L j id = true) ∨ (∃ id, L i id = true ∧ W j id = true) ∨ (∃ t, dst i = some t ∧ (t ∈ looks j ∨ dst j = some t)) ∨ (∃ t, dst j = some t ∧ t ∈ looks i) → Before ops i j)
    (Hback : ∀ j o, ops[j]? = some o → ∀ e ∈ o.after, Region.binds .any e = true → e.on < j)
    {γ0 : Gam} {w0 : World} (hfresh : ∀ id, lo 0 ≤ id → id < lo ops.size → γ0 id = none)
    (Hfin : ∀ γ a w, Step (lo 0) (lo ops.size) γ0 (h 0) w0 γ (h ops.size) w → a.defers = ds → a.tmps.size = n → (∀ t v, u ops.size t = some v → VRel γ v (a.tmps.getD t undef)) → Q .normal a w) :
    ∀ (fuel : Nat) (listed : Array Bool) (a : Act) (w : World) (S : Nat → Bool), (∀ j, S j = listed.getD j false) → listed.size = ops.size → Closed ops S →
      (∃ l : List Nat, l.length ≤ fuel ∧ ∀ j, j < ops.size → S j = false → j ∈ l) →
      (∃ γ, Step (lo 0) (lo ops.size) γ0 (h 0) w0 γ (ks h W S ops.size) w ∧ (∀ id, γ0 id = none → γ id ≠ none → ∃ m, m < ops.size ∧ S m = true ∧ lo m ≤ id ∧ id < lo (m + 1)) ∧
        a.defers = ds ∧ a.tmps.size = n ∧ ∀ t v, us u dst S ops.size t = some v → VRel γ v (a.tmps.getD t undef)) →
      wpAnyIn (FF roC) 0 P .any ops Q fuel listed a w := by
  have lomono : ∀ i d, i + d ≤ ops.size → lo i ≤ lo (i + d) := by
    intro i d
    induction d with
    | zero => intro _; exact Nat.le_refl _
    | succ d ih => intro hd; exact Nat.le_trans (ih (by omega)) (hmono (i + d) (by omega))
  have lole : ∀ i j, i ≤ j → j ≤ ops.size → lo i ≤ lo j := fun i j hij hj => by have := lomono i (j - i) (by omega); rwa [show i + (j - i) = j by omega] at this
  intro fuel
  induction fuel with
  | zero =>
    intro listed a w S hS hsz hcl ⟨l, hl, hall⟩ ⟨γ, st, hdom, hds, hn, hv⟩
    have hl0 : l = [] := List.length_eq_zero_iff.1 (by omega)
    subst hl0
    have hone : ∀ j, j < ops.size → S j = true := fun j hj => by
      cases e : S j with
      | true => rfl
      | false => exact absurd (hall j hj e) (by simp)
    have hready : Region.ready .any ops listed = [] := by
      rw [List.eq_nil_iff_forall_not_mem]
      intro j hj
      obtain ⟨h1, o, h2, _⟩ := mem_ready.1 hj
      have hj' : j < ops.size := (Array.getElem?_eq_some_iff.1 h2).1
      have h3 := hone j hj'
      rw [hS j] at h3
      have : j < listed.size := by omega
      simp [this] at h1 h3
      rw [h3] at h1; cases h1
    refine ⟨hready, Hfin γ a w ?_ hds hn (fun t v e => hv t v ?_)⟩
    · have : ks h W S ops.size = h ops.size := funext fun id => ks_agree H1 (Nat.le_refl _) (fun j hj _ => ⟨fun _ => hj, fun _ => hone j hj⟩)
      rw [← this]; exact st
    · rw [us_agree H2 (Nat.le_refl _) (fun j hj _ => ⟨fun _ => hj, fun _ => hone j hj⟩)]; exact e
  | succ fuel ih =>
    intro listed a w S hS hsz hcl ⟨l, hl, hall⟩ ⟨γ, st, hdom, hds, hn, hv⟩
    refine ⟨fun hready => ?_, fun i hi => ?_⟩
    · -- all is listed
      have hone : ∀ j, j < ops.size → S j = true := by
        intro j
        induction j using Nat.strongRecOn with
        | _ j ihj =>
          intro hj
          cases e : S j with
          | true => rfl
          | false =>
            exfalso
            have : j ∈ Region.ready .any ops listed := by
              refine mem_ready.2 ⟨?_, ops[j], Array.getElem?_eq_getElem hj, fun e he hb => ?_⟩
              · rw [hS j] at e
                have : j < listed.size := by omega
                simp [this] at e ⊢
                exact e
              · have h1 := Hback j _ (Array.getElem?_eq_getElem hj) e he hb
                rw [← hS]; exact ihj e.on h1 (by omega)
            rw [hready] at this; cases this
      refine Hfin γ a w ?_ hds hn (fun t v e => hv t v ?_)
      · have : ks h W S ops.size = h ops.size := funext fun id => ks_agree H1 (Nat.le_refl _) (fun j hj _ => ⟨fun _ => hj, fun _ => hone j hj⟩)
        rw [← this]; exact st
      · rw [us_agree H2 (Nat.le_refl _) (fun j hj _ => ⟨fun _ => hj, fun _ => hone j hj⟩)]; exact e
    · obtain ⟨h1, o, h2, h3⟩ := mem_ready.1 hi
      have hi' : i < ops.size := (Array.getElem?_eq_some_iff.1 h2).1
      have hil : i < listed.size := by omega
      have hSi : S i = false := by rw [hS i]; simp [hil] at h1 ⊢; exact h1
      have hwait : Waits ops S i := fun o' ho' e he hb => by
        rw [h2] at ho'; cases ho'
        rw [hS]; exact h3 e he hb
      have hwaitS : ∀ j, S j = true → Waits ops S j := fun j hj o' ho' => hcl j o' ho' hj
      -- who wrote what it reads
      have earlier : ∀ j, j < i → Before ops j i → S j = true := fun j _ hb => hb S hcl hwait
      have later : ∀ j, S j = true → ¬ Before ops i j := fun j hj hb => by
        have := hb S hcl (hwaitS j hj)
        rw [hSi] at this; cases this
      have hagree : ∀ id, L i id = true → ks h W S ops.size id = h i id := by
        intro id hid
        refine ks_agree H1 (Nat.le_of_lt hi') (fun j hj hw => ?_)
        rcases Nat.lt_trichotomy j i with hlt | heq | hgt
        · exact ⟨fun _ => hlt, fun _ => earlier j hlt (Hcfl j i hlt hi' (.inl ⟨id, hw, hid⟩))⟩
        · subst heq
          exact ⟨fun e => (by rw [hSi] at e; cases e), fun e => absurd e (Nat.lt_irrefl _)⟩
        · exact ⟨fun e => absurd (Hcfl i j hgt hj (.inr (.inl ⟨id, hid, hw⟩))) (later j e), fun e => by omega⟩
      have hnoW : ∀ id, W i id = true → ∀ j, i < j → j < ops.size → W j id = true → S j = false := by
        intro id hwi j hij hj hwj
        cases e : S j with
        | false => rfl
        | true =>
          exfalso
          rcases HWl j hj id hwj with q | ⟨q, _⟩
          · exact later j e (Hcfl i j hij hj (.inl ⟨id, hwi, q⟩))
          · have h4 := lole (i + 1) j (by omega) (by omega)
            rcases HWl i hi' id hwi with q2 | ⟨_, q2⟩
            · have := HL i hi' id q2; have := hmono i hi'; omega
            · omega
      have hdead : ∀ id, lo i ≤ id → id < lo (i + 1) → ks h W S ops.size id = .dead := by
        intro id ha hb
        have hwi := HWn i hi' id ha hb
        rw [ks_agree (i := 0) H1 (Nat.zero_le _) (fun j hj hw => ⟨fun e => ?_, fun e => by omega⟩)]
        · exact Hnew id (Nat.le_trans (lole 0 i (Nat.zero_le _) (Nat.le_of_lt hi')) ha)
        · exfalso
          rcases Nat.lt_trichotomy j i with hlt | heq | hgt
          · rcases HWl j hj id hw with q | ⟨_, q⟩
            · have := HL j hj id q; have := lole j i (by omega) (by omega); omega
            · have := lole (j + 1) i (by omega) (by omega); omega
          · subst heq; rw [hSi] at e; cases e
          · have := hnoW id hwi j hgt hj hw
            rw [this] at e; cases e
      have hlook : ∀ t ∈ looks i, ∀ v, u i t = some v → VRel γ v (a.tmps.getD t undef) := by
        intro t ht v hu
        refine hv t v ?_
        rw [us_agree H2 (Nat.le_of_lt hi') (fun j hj hd => ?_)]
        · exact hu
        · rcases Nat.lt_trichotomy j i with hlt | heq | hgt
          · exact ⟨fun _ => hlt, fun _ => earlier j hlt (Hcfl j i hlt hi' (.inr (.inr (.inl ⟨t, hd, .inl ht⟩))))⟩
          · subst heq
            exact ⟨fun e => (by rw [hSi] at e; cases e), fun e => absurd e (Nat.lt_irrefl _)⟩
          · exact ⟨fun e => absurd (Hcfl i j hgt hj (.inr (.inr (.inr ⟨t, hd, ht⟩)))) (later j e), fun e => by omega⟩
      have hfr : ∀ id, lo i ≤ id → id < lo (i + 1) → γ id = none := by
        intro id ha hb
        cases e : γ id with
        | none => rfl
        | some x =>
          exfalso
          have h5 := lole 0 i (Nat.zero_le _) (Nat.le_of_lt hi')
          have h6 := lole (i + 1) ops.size (by omega) (Nat.le_refl _)
          obtain ⟨m, hm, hSm, q1, q2⟩ := hdom id (hfresh id (by omega) (by omega)) (by rw [e]; simp)
          rcases Nat.lt_trichotomy m i with hlt | heq | hgt
          · have := lole (m + 1) i (by omega) (by omega); omega
          · subst heq; rw [hSi] at hSm; cases hSm
          · have := lole (i + 1) m (by omega) (by omega); omega
      refine Hop i hi' γ _ a w st.sat hagree hdead hlook hn hfr _ (fun γ' w' a' st' hds' hn' hoth hown => ?_)
      have hS'0 : ∀ j, (listed.setIfInBounds i true).getD j false = (S j || decide (j = i)) := by
        intro j
        rw [hS j]
        simp only [Array.getD_eq_getD_getElem?, Array.getElem?_setIfInBounds]
        by_cases hj : i = j
        · subst hj; simp [hil]
        · simp [hj, Ne.symm hj]
      refine ih (listed.setIfInBounds i true) a' w' (fun j => (listed.setIfInBounds i true).getD j false) (fun _ => rfl) (by simp [hsz]) ?_ ?_ ?_
      · intro j oj hoj hSj e he hb
        simp only [hS'0] at hSj ⊢
        simp only [Bool.or_eq_true, decide_eq_true_eq] at hSj ⊢
        rcases hSj with q | q
        · exact .inl (hcl j oj hoj q e he hb)
        · subst q; exact .inl (hwait oj hoj e he hb)
      · refine ⟨l.erase i, ?_, fun j hj hSj => ?_⟩
        · have : i ∈ l := hall i hi' hSi
          rw [List.length_erase_of_mem this]; omega
        · simp only [hS'0] at hSj
          simp only [Bool.or_eq_false_iff, decide_eq_false_iff_not] at hSj
          exact (List.mem_erase_of_ne hSj.2).2 (hall j hj hSj.1)
      · have hks : ks h W (fun j => (listed.setIfInBounds i true).getD j false) ops.size = fun id => if W i id = true then h (i + 1) id else ks h W S ops.size id :=
          ks_insert hi' hSi hS'0 hnoW
        refine ⟨γ', ?_, fun id e1 e2 => ?_, hds'.trans hds, hn', fun t v hu => ?_⟩
        · rw [hks]
          exact st.join (st'.widen (lole 0 i (Nat.zero_le _) (Nat.le_of_lt hi')) (lole (i + 1) ops.size (by omega) (Nat.le_refl _)))
        · by_cases hγ : γ id = none
          · have := st'.dom id hγ e2
            exact ⟨i, hi', by simp only [hS'0]; simp, this.1, this.2⟩
          · obtain ⟨m, hm, hSm, q⟩ := hdom id e1 hγ
            exact ⟨m, hm, by simp only [hS'0]; simp [hSm], q⟩
        · rw [us_insert hi' hSi hS'0 (fun hd j hij hj hdj => by
            cases e : S j with
            | false => rfl
            | true => exact absurd (Hcfl i j hij hj (.inr (.inr (.inl ⟨t, hd, .inr hdj⟩)))) (later j e))] at hu
          by_cases hd : dst i = some t
          · rw [if_pos hd] at hu; exact hown t v hd hu
          · rw [if_neg hd] at hu
            rw [hoth t hd]
            exact (hv t v hu).mono st'.le
end Go.Ev
