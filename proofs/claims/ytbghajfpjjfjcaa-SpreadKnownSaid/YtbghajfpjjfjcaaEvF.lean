/- An evaluator of closed Go code, part 6: its state; what new blocks, writes and appends do to what is said of the world. -/
import Derived.Test.YtbghajfpjjfjcaaEvE
set_option linter.unusedSimpArgs false
set_option linter.unusedVariables false
namespace Go.Ev
open Go Go.RowKit
variable [Rho]

structure St where
  heap : PT AB
  next : Nat
  wr : List Nat
  thr : Nat
  allow : List Nat

def memN (x : Nat) : List Nat → Bool
  | [] => false
  | y :: l => cond (Nat.beq x y) true (memN x l)

omit [Rho] in
theorem memN_iff (x : Nat) : ∀ l : List Nat, memN x l = true ↔ x ∈ l
  | [] => by simp [memN]
  | y :: l => by
    simp only [memN, List.mem_cons]
    cases h : Nat.beq x y with
    | true => simp [Nat.eq_of_beq_eq_true h]
    | false => have := Nat.ne_of_beq_eq_false h; simp [this, memN_iff x l]

def hdep : Nat := 14
def hmax : Nat := 16384

def St.sees (s : St) (id : Nat) : Bool := match s with
  | ⟨_, _, _, thr, allow⟩ => cond (Nat.ble thr id) true (memN id allow)
def St.raw (s : St) (id : Nat) : AB := match s with
  | ⟨h, _, _, _, _⟩ => cond (Nat.blt id hmax) ((PT.get hdep h id).getD .dead) .dead
def St.at (s : St) (id : Nat) : AB := cond (s.sees id) (s.raw id) .dead

def forceNat {β : Type} (n : Nat) (k : Nat → β) : β := match n with
  | 0 => k 0
  | m + 1 => k (m + 1)
omit [Rho] in
theorem forceNat_eq {β : Type} (n : Nat) (k : Nat → β) : forceNat n k = k n := by cases n <;> rfl

def St.putK {β : Type} (s : St) (id : Nat) (b : AB) (k : St → Option β) : Option β := match s with
  | ⟨h, n, wr, thr, allow⟩ => cond (Nat.blt id hmax) (PT.setK hdep h id b fun h' =>
      cond (Nat.ble thr id) (k ⟨h', n, wr, thr, allow⟩) (cond (memN id wr) (k ⟨h', n, wr, thr, allow⟩) (k ⟨h', n, id :: wr, thr, allow⟩))) none

def St.newK {β : Type} (s : St) (b : AB) (k : Nat → St → Option β) : Option β := match s with
  | ⟨h, n, wr, thr, allow⟩ => cond (Nat.blt n hmax) (PT.setK hdep h n b fun h' => forceNat (n + 1) fun n' => k n ⟨h', n', wr, thr, allow⟩) none

/-- What holds of every state that the evaluator comes to. -/
structure St.Wf (s : St) : Prop where
  thr : s.thr ≤ s.next
  fresh : ∀ id, s.next ≤ id → s.raw id = .dead

/-- What no part of the evaluator does. -/
structure Raw (s s' : St) : Prop where
  next : s.next ≤ s'.next
  thr : s'.thr = s.thr
  allow : s'.allow = s.allow
  wr : ∀ id, id ∈ s.wr → id ∈ s'.wr
  new : ∀ id, id ∈ s'.wr → id ∈ s.wr ∨ (id < s.thr ∧ id ∈ s.allow)
  same : ∀ id, id < s.thr → id ∉ s'.wr → s'.raw id = s.raw id
  wf : s'.Wf

omit [Rho] in
theorem Raw.refl {s : St} (h : s.Wf) : Raw s s := ⟨Nat.le_refl _, rfl, rfl, fun _ h => h, fun _ h => .inl h, fun _ _ _ => rfl, h⟩
omit [Rho] in
theorem Raw.trans {a b c : St} (h : Raw a b) (k : Raw b c) : Raw a c := by
  refine ⟨Nat.le_trans h.next k.next, k.thr.trans h.thr, k.allow.trans h.allow, fun id m => k.wr id (h.wr id m), fun id m => ?_, fun id hl hn => ?_, k.wf⟩
  · rcases k.new id m with m | ⟨m1, m2⟩
    · exact h.new id m
    · exact .inr ⟨by rw [← h.thr]; exact m1, by rw [← h.allow]; exact m2⟩
  · rw [k.same id (by rw [h.thr]; exact hl) hn, h.same id hl (fun m => hn (k.wr id m))]

omit [Rho] in
theorem St.sees_iff (s : St) (id : Nat) : s.sees id = true ↔ s.thr ≤ id ∨ id ∈ s.allow := by
  obtain ⟨h, n, wr, thr, allow⟩ := s
  simp only [St.sees]
  cases hb : Nat.ble thr id with
  | true => simp [Nat.le_of_ble_eq_true hb]
  | false =>
    have : ¬ thr ≤ id := fun hh => by rw [Nat.ble_eq_true_of_le hh] at hb; cases hb
    simp [this, memN_iff]

omit [Rho] in
theorem raw_set (h : PT AB) (n : Nat) (wr : List Nat) (thr : Nat) (allow : List Nat) (id j : Nat) (b : AB) (hid : id < hmax) (n' : Nat) (wr' : List Nat) :
    St.raw ⟨PT.set hdep h id b, n', wr', thr, allow⟩ j = if j = id then b else St.raw ⟨h, n, wr, thr, allow⟩ j := by
  simp only [St.raw]
  cases hj : Nat.blt j hmax with
  | true =>
    have hj' : j < hmax := Nat.le_of_ble_eq_true hj
    simp only [cond_true]
    rw [PT.get_set hdep h id j b hid hj']
    split <;> rfl
  | false =>
    have hj' : ¬ j < hmax := fun hh => by have := Nat.ble_eq_true_of_le hh; rw [Nat.blt, this] at hj; cases hj
    have hne : j ≠ id := fun hh => hj' (hh ▸ hid)
    simp [hne]

omit [Rho] in
theorem sees_same (h h' : PT AB) (n n' : Nat) (wr wr' : List Nat) (thr : Nat) (allow : List Nat) (j : Nat) : St.sees ⟨h', n', wr', thr, allow⟩ j = St.sees ⟨h, n, wr, thr, allow⟩ j := rfl

omit [Rho] in
theorem St.putK_inv {β : Type} {s : St} {id : Nat} {b : AB} {k : St → Option β} {r : β} (h : s.putK id b k = some r) (hw : s.Wf) (hs : s.sees id = true) (hl : id < s.next) :
    ∃ s', k s' = some r ∧ Raw s s' ∧ s'.next = s.next ∧ s'.at = fun j => if j = id then b else s.at j := by
  obtain ⟨hp, n, wr, thr, allow⟩ := s
  simp only [St.putK] at h
  cases hb : Nat.blt id hmax with
  | false => simp only [hb, cond_false] at h; cases h
  | true =>
    have hid : id < hmax := Nat.le_of_ble_eq_true hb
    simp only [hb, cond_true, PT.setK_eq] at h
    have hat : ∀ wr', St.at ⟨PT.set hdep hp id b, n, wr', thr, allow⟩ = fun j => if j = id then b else St.at ⟨hp, n, wr, thr, allow⟩ j := by
      intro wr'
      funext j
      simp only [St.at]
      rw [raw_set hp n wr thr allow id j b hid n wr', sees_same hp _ n n wr wr' thr allow j]
      by_cases hj : j = id
      · subst hj; simp [hs]
      · simp [hj]
    have hwf : ∀ wr', St.Wf ⟨PT.set hdep hp id b, n, wr', thr, allow⟩ := by
      intro wr'
      refine ⟨hw.thr, fun j hj => ?_⟩
      rw [raw_set hp n wr thr allow id j b hid n wr']
      have hne : j ≠ id := by have : n ≤ j := hj; have : id < n := hl; omega
      rw [if_neg hne]
      exact hw.fresh j hj
    have hsame : ∀ wr' j, j ≠ id → St.raw ⟨PT.set hdep hp id b, n, wr', thr, allow⟩ j = St.raw ⟨hp, n, wr, thr, allow⟩ j := by
      intro wr' j hj
      rw [raw_set hp n wr thr allow id j b hid n wr', if_neg hj]
    have hvis : thr ≤ id ∨ id ∈ allow := (St.sees_iff _ id).1 hs
    cases ht : Nat.ble thr id with
    | true =>
      simp only [ht, cond_true] at h
      have ht' := Nat.le_of_ble_eq_true ht
      exact ⟨_, h, ⟨Nat.le_refl _, rfl, rfl, fun _ m => m, fun _ m => .inl m, fun j hj _ => hsame wr j (by have : j < thr := hj; omega), hwf wr⟩, rfl, hat wr⟩
    | false =>
      have ht' : ¬ thr ≤ id := fun hh => by rw [Nat.ble_eq_true_of_le hh] at ht; cases ht
      simp only [ht, cond_false] at h
      cases hm : memN id wr with
      | true =>
        simp only [hm, cond_true] at h
        have hm' := (memN_iff id wr).1 hm
        exact ⟨_, h, ⟨Nat.le_refl _, rfl, rfl, fun _ m => m, fun _ m => .inl m, fun j hj hn => hsame wr j (fun e => hn (e ▸ hm')), hwf wr⟩, rfl, hat wr⟩
      | false =>
        simp only [hm, cond_false] at h
        refine ⟨_, h, ⟨Nat.le_refl _, rfl, rfl, fun _ m => List.mem_cons_of_mem _ m, fun j m => ?_, fun j hj hn => hsame _ j (fun e => hn (e ▸ List.mem_cons_self)), hwf _⟩, rfl, hat _⟩
        rcases List.mem_cons.1 m with rfl | m
        · exact .inr ⟨Nat.lt_of_not_le ht', hvis.resolve_left ht'⟩
        · exact .inl m

omit [Rho] in
theorem St.newK_inv {β : Type} {s : St} {b : AB} {k : Nat → St → Option β} {r : β} (h : s.newK b k = some r) (hw : s.Wf) :
    ∃ s', k s.next s' = some r ∧ Raw s s' ∧ s'.next = s.next + 1 ∧ s.at s.next = .dead ∧ s'.at = fun j => if j = s.next then b else s.at j := by
  obtain ⟨hp, n, wr, thr, allow⟩ := s
  simp only [St.newK] at h
  cases hb : Nat.blt n hmax with
  | false => simp only [hb, cond_false] at h; cases h
  | true =>
    have hid : n < hmax := Nat.le_of_ble_eq_true hb
    simp only [hb, cond_true, PT.setK_eq, forceNat_eq] at h
    have hthr : thr ≤ n := hw.thr
    refine ⟨_, h, ⟨Nat.le_succ _, rfl, rfl, fun _ m => m, fun _ m => .inl m, fun j hj _ => ?_, ⟨Nat.le_succ_of_le hw.thr, fun j hj => ?_⟩⟩, rfl, ?_, ?_⟩
    · rw [raw_set hp n wr thr allow n j b hid (n + 1) wr, if_neg (by have : j < thr := hj; omega)]
    · have hj' : n + 1 ≤ j := hj
      rw [raw_set hp n wr thr allow n j b hid (n + 1) wr, if_neg (by omega)]
      exact hw.fresh j (show n ≤ j by omega)
    · have := hw.fresh n (Nat.le_refl _)
      simp only [St.at, this]
      cases St.sees ⟨hp, n, wr, thr, allow⟩ n <;> rfl
    · funext j
      simp only [St.at]
      rw [raw_set hp n wr thr allow n j b hid (n + 1) wr, sees_same hp _ n (n + 1) wr wr thr allow j]
      by_cases hj : j = n
      · subst hj
        have : St.sees ⟨hp, j, wr, thr, allow⟩ j = true := (St.sees_iff _ j).2 (.inl hthr)
        simp [this]
      · simp [hj]

def Gam.add (γ : Gam) (id : Nat) (x : Nat × Nat × Nat) : Gam := fun j => if j = id then some x else γ j
omit [Rho] in
theorem Gam.le_add {γ : Gam} {id : Nat} (h : γ id = none) (x : Nat × Nat × Nat) : γ.le (γ.add id x) := fun j y e => by
  unfold Gam.add
  by_cases hj : j = id
  · subst hj; rw [h] at e; cases e
  · rw [if_neg hj]; exact e
omit [Rho] in
theorem Gam.add_same (γ : Gam) (id : Nat) (x : Nat × Nat × Nat) : γ.add id x id = some x := by simp [Gam.add]
omit [Rho] in
theorem Gam.add_other (γ : Gam) {id j : Nat} (h : j ≠ id) (x : Nat × Nat × Nat) : γ.add id x j = γ j := by simp [Gam.add, h]

/-- A new block. -/
theorem Step.ofNew {γ : Gam} {h : Hp} {w w' : World} {id C : Nat} {b : AB} (hs : Sat γ h w) (hg : γ id = none)
    (hsz : w'.heap.size = w.heap.size + 1) (hold : ∀ B, B < w.heap.size → w'.heap[B]? = w.heap[B]?) (hos : w'.os = w.os) (htape : w'.tape = w.tape) (hout : w'.output = w.output)
    (hb : SatB (γ.add id (w.heap.size, 0, C)) w' id b) (hbo : b.alive = true → b.own = true := by first | exact fun _ => rfl | exact fun h => nomatch h) : Step id (id + 1) γ h w (γ.add id (w.heap.size, 0, C)) (fun j => if j = id then b else h j) w' := by
  have hle := Gam.le_add hg (w.heap.size, 0, C)
  have lt : ∀ j B O C', (h j).alive = true → γ j = some (B, O, C') → B < w.heap.size := fun j B O C' ha e => by
    exact (hs.blk j).at ha _ _ _ e
  refine Step0.up hs.frz ⟨hle, fun j e1 e2 => ?_, by omega, fun B hB _ => hold B hB, fun B ho => ?_, ⟨fun j => ?_, fun i j B O C1 O' C1' ai aj ei ej => ?_⟩, hos, htape, hout, fun j a1 a2 => ?_⟩
  · by_cases hj : j = id
    · omega
    · rw [Gam.add_other γ hj] at e2; exact absurd e1 e2
  · obtain ⟨j, O, C1, hown, e1⟩ := ho
    by_cases hj : j = id
    · subst hj; rw [Gam.add_same] at e1; cases e1; exact .inr (Nat.le_refl _)
    · simp only [if_neg hj] at hown; rw [Gam.add_other γ hj] at e1; exact .inl ⟨j, O, C1, hown, e1⟩
  · by_cases hj : j = id
    · subst hj; simp only [if_true]; exact hb
    · simp only [if_neg hj]
      exact (hs.blk j).keep hle (fun q => by rw [Gam.add_other γ hj]; exact q) (fun B O C1 ha e => hold B (lt j B O C1 ha e))
  · by_cases hi : i = id <;> by_cases hj : j = id
    · omega
    · subst hi
      simp only [if_neg hj] at aj
      rw [Gam.add_same] at ei
      rw [Gam.add_other γ hj] at ej
      cases ei
      have := lt j _ _ _ aj ej
      omega
    · subst hj
      simp only [if_neg hi] at ai
      rw [Gam.add_same] at ej
      rw [Gam.add_other γ hi] at ei
      cases ej
      have := lt i _ _ _ ai ei
      omega
    · simp only [if_neg hi] at ai
      simp only [if_neg hj] at aj
      rw [Gam.add_other γ hi] at ei
      rw [Gam.add_other γ hj] at ej
      exact hs.inj i j B O C1 O' C1' ai aj ei ej
  · by_cases hj : j = id
    · subst hj; simp only [if_true] at a1 a2; rw [hbo a1] at a2; cases a2
    · simp only [if_neg hj]

/-- A write into a block. -/
theorem Step.ofPut {lo : Nat} {γ : Gam} {h : Hp} {w w' : World} {id B O C : Nat} {b : AB} (hs : Sat γ h w) (hown : (h id).own = true) (hg : γ id = some (B, O, C))
    (hsz : w'.heap.size = w.heap.size) (hold : ∀ B', B' ≠ B → w'.heap[B']? = w.heap[B']?) (hos : w'.os = w.os) (htape : w'.tape = w.tape) (hout : w'.output = w.output)
    (hb : SatB γ w' id b) (hbo : b.alive = true → b.own = true := by first | exact fun _ => rfl | exact fun h => nomatch h) : Step lo lo γ h w γ (fun j => if j = id then b else h j) w' := by
  refine Step0.up hs.frz ⟨Gam.le_refl _, fun j e1 e2 => absurd e1 e2, by omega, fun B' hB ho => hold B' (fun e => ho ⟨id, O, C, hown, by rw [e]; exact hg⟩), fun B' ho => ?_, ⟨fun j => ?_, fun i j B1 O1 C1 O' C1' ai aj ei ej => ?_⟩, hos, htape, hout, fun j a1 a2 => ?_⟩
  · obtain ⟨j, O1, C1, ho1, e1⟩ := ho
    by_cases hj : j = id
    · subst hj; exact .inl ⟨j, O1, C1, hown, e1⟩
    · simp only [if_neg hj] at ho1; exact .inl ⟨j, O1, C1, ho1, e1⟩
  · by_cases hj : j = id
    · subst hj; simp only [if_true]; exact hb
    · simp only [if_neg hj]
      refine (hs.blk j).keep (Gam.le_refl _) (fun q => q) (fun B1 O1 C1 ha e => hold B1 (fun e2 => hj ?_))
      subst e2
      exact hs.inj j id B1 O1 C1 O C ha (AB.alive_of_own hown) e hg
  · have key : ∀ m, (if m = id then b else h m).alive = true → (h m).alive = true := fun m hm => by
      by_cases hmi : m = id
      · subst hmi; exact AB.alive_of_own hown
      · simpa only [if_neg hmi] using hm
    exact hs.inj i j B1 O1 C1 O' C1' (key i ai) (key j aj) ei ej
  · by_cases hj : j = id
    · subst hj; simp only [if_true] at a1 a2; rw [hbo a1] at a2; cases a2
    · simp only [if_neg hj]

/-- A block goes on under a new name. -/
theorem Step.ofMove {γ : Gam} {h : Hp} {w w' : World} {id0 id B O C O' C' : Nat} {b : AB} (hs : Sat γ h w) (hown : (h id0).own = true) (hg : γ id0 = some (B, O, C)) (hn : γ id = none)
    (hsz : w'.heap.size = w.heap.size) (hold : ∀ B', B' ≠ B → w'.heap[B']? = w.heap[B']?) (hos : w'.os = w.os) (htape : w'.tape = w.tape) (hout : w'.output = w.output)
    (hb : SatB (γ.add id (B, O', C')) w' id b) (hbo : b.alive = true → b.own = true := by first | exact fun _ => rfl | exact fun h => nomatch h) : Step id (id + 1) γ h w (γ.add id (B, O', C')) (fun j => if j = id then b else if j = id0 then .dead else h j) w' := by
  have hle := Gam.le_add hn (B, O', C')
  refine Step0.up hs.frz ⟨hle, fun j e1 e2 => ?_, by omega, fun B' hB ho => hold B' (fun e => ho ⟨id0, O, C, hown, by rw [e]; exact hg⟩), fun B' ho => ?_, ⟨fun j => ?_, fun i j B1 O1 C1 O2 C2 ai aj ei ej => ?_⟩, hos, htape, hout, fun j a1 a2 => ?_⟩
  · by_cases hj : j = id
    · omega
    · rw [Gam.add_other γ hj] at e2; exact absurd e1 e2
  · obtain ⟨j, O1, C1, ho1, e1⟩ := ho
    by_cases hj : j = id
    · subst hj; rw [Gam.add_same] at e1; cases e1; exact .inl ⟨id0, O, C, hown, hg⟩
    · rw [Gam.add_other γ hj] at e1
      simp only [if_neg hj] at ho1
      by_cases hj0 : j = id0
      · simp [hj0, AB.own] at ho1
      · simp only [if_neg hj0] at ho1; exact .inl ⟨j, O1, C1, ho1, e1⟩
  · by_cases hj : j = id
    · subst hj; simp only [if_true]; exact hb
    · simp only [if_neg hj]
      by_cases hj0 : j = id0
      · simp only [if_pos hj0]; trivial
      · simp only [if_neg hj0]
        refine (hs.blk j).keep hle (fun q => by rw [Gam.add_other γ hj]; exact q) (fun B1 O1 C1 ha e => hold B1 (fun e2 => hj0 ?_))
        subst e2
        exact hs.inj j id0 B1 O1 C1 O C ha (AB.alive_of_own hown) e hg
  · have key : ∀ m, m ≠ id → (if m = id then b else if m = id0 then AB.dead else h m).alive = true → m ≠ id0 ∧ (h m).alive = true := fun m hmi hm => by
      simp only [if_neg hmi] at hm
      by_cases hm0 : m = id0
      · simp [hm0, AB.alive] at hm
      · simp only [if_neg hm0] at hm; exact ⟨hm0, hm⟩
    by_cases hi : i = id <;> by_cases hj : j = id
    · omega
    · subst hi
      obtain ⟨n0, al⟩ := key j hj aj
      rw [Gam.add_same] at ei
      rw [Gam.add_other γ hj] at ej
      cases ei
      exact absurd (hs.inj j id0 B O2 C2 O C al (AB.alive_of_own hown) ej hg) n0
    · subst hj
      obtain ⟨n0, al⟩ := key i hi ai
      rw [Gam.add_same] at ej
      rw [Gam.add_other γ hi] at ei
      cases ej
      exact absurd (hs.inj i id0 B O1 C1 O C al (AB.alive_of_own hown) ei hg) n0
    · obtain ⟨_, al1⟩ := key i hi ai
      obtain ⟨_, al2⟩ := key j hj aj
      rw [Gam.add_other γ hi] at ei
      rw [Gam.add_other γ hj] at ej
      exact hs.inj i j B1 O1 C1 O2 C2 al1 al2 ei ej
  · by_cases hj : j = id
    · subst hj; simp only [if_true] at a1 a2; rw [hbo a1] at a2; cases a2
    · by_cases hj0 : j = id0
      · subst hj0; simp [hj, AB.alive] at a1
      · simp only [if_neg hj, if_neg hj0]
end Go.Ev
