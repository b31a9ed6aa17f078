/-
  The search for the best values, without any program: what holds between two steps of it.
-/
import Derived.Test.YthcenmocnphnmaaGreatDoorMA
import Derived.BigRegion
import Derived.StillTailTactics
import Derived.Deep.RegionHeld3
import Derived.Deep.RegionLaw
import Derived.Deep.AppendLies
set_option linter.unusedSimpArgs false
set_option linter.unusedVariables false
namespace Go.Proofs.YthcenmocnphnmaaGreatDoor

/-- the values of the ways to a cell -/
inductive Way (nb : Nat → List Nat) (S : List Nat) (fst : Nat → Int) (nx : Int → Nat → Int) : Nat → Int → Prop
  | start {c : Nat} : c ∈ S → Way nb S fst nx c (fst c)
  | step {c d : Nat} {v : Int} : Way nb S fst nx c v → d ∈ nb c → Way nb S fst nx d (nx v d)

def psum (f : Nat → Nat) : Nat → Nat
  | 0 => 0
  | n + 1 => psum f n + f n
theorem psum_le {f g : Nat → Nat} : ∀ {n : Nat}, (∀ i, i < n → f i ≤ g i) → psum f n ≤ psum g n
  | 0, _ => Nat.le_refl _
  | n + 1, h => Nat.add_le_add (psum_le fun i hi => h i (by omega)) (h n (by omega))
theorem psum_lt {f g : Nat → Nat} {c : Nat} : ∀ {n : Nat}, (∀ i, i < n → f i ≤ g i) → c < n → f c + 1 ≤ g c → psum f n + 1 ≤ psum g n
  | 0, _, hc, _ => by omega
  | n + 1, h, hc, hl => by
    simp only [psum]
    by_cases e : c = n
    · subst e
      have := psum_le (n := c) fun i hi => h i (by omega)
      omega
    · have := psum_lt (n := n) (fun i hi => h i (by omega)) (by omega) hl
      have := h n (by omega)
      omega
theorem psum_const (k : Nat) : ∀ n : Nat, psum (fun _ => k) n = n * k
  | 0 => by simp [psum]
  | n + 1 => by simp only [psum, psum_const k n]; rw [Nat.add_mul]; omega

/-- an order, and the numbers by which it ends -/
structure Odr (lt : Int → Int → Bool) (Acc : Int → Prop) (m : Int → Nat) (M : Nat) : Prop where
  tr : ∀ a b c, lt a b = true → lt b c = true → lt a c = true
  irr : ∀ a, lt a a = false
  dec : ∀ a b, Acc a → Acc b → lt a b = true → m a < m b
  top : ∀ a, Acc a → m a ≤ M

section
variable (nb : Nat → List Nat) (S : List Nat) (fst : Nat → Int) (nx : Int → Nat → Int) (lt : Int → Int → Bool) (Acc : Int → Prop) (m : Int → Nat) (M N : Nat)

def isR (rs : List Bool) (c : Nat) : Prop := rs[c]? = some true
def val (vs : List Int) (c : Nat) : Int := vs.getD c 0
/-- d is reached by a value that is not behind y -/
def Done (rs : List Bool) (vs : List Int) (d : Nat) (y : Int) : Prop := isR rs d ∧ lt y (val vs d) = false
def pot (rs : List Bool) (vs : List Int) : Nat := psum (fun c => if rs.getD c false then m (val vs c) else M + 1) N

structure SInv (Sd : List Nat) (P : Nat → Int → Prop) (rs : List Bool) (vs : List Int) (its : List (Int × Int)) : Prop where
  lrs : rs.length = N
  lvs : vs.length = N
  way : ∀ c, isR rs c → Way nb S fst nx c (val vs c) ∧ Acc (val vs c)
  qu : ∀ p, p ∈ its → ∃ c : Nat, p.1 = c ∧ c < N ∧ Way nb S fst nx c p.2 ∧ Acc p.2
  sts : ∀ c, c ∈ Sd → Done lt rs vs c (fst c)
  cls : ∀ c : Nat, isR rs c → ((c : Int), val vs c) ∈ its ∨ (∀ d, d ∈ nb c → Done lt rs vs d (nx (val vs c) d)) ∨ P c (val vs c)
end

section
variable {nb : Nat → List Nat} {S : List Nat} {fst : Nat → Int} {nx : Int → Nat → Int} {lt : Int → Int → Bool} {Acc : Int → Prop} {m : Int → Nat} {M N : Nat}
variable {Sd : List Nat} {P : Nat → Int → Prop} {rs : List Bool} {vs : List Int} {its its' : List (Int × Int)}

def betterP (lt : Int → Int → Bool) (rs : List Bool) (vs : List Int) (c : Nat) (x : Int) : Bool := !(rs.getD c false) || lt x (vs.getD c 0)

theorem isR_set {rs : List Bool} {d c : Nat} (hd : d < rs.length) : isR (rs.set d true) c ↔ (c = d ∨ isR rs c) := by
  unfold isR
  rw [List.getElem?_set]
  by_cases e : d = c
  · subst e; simp [hd]
  · simp only [if_neg e]
    constructor
    · exact .inr
    · rintro (h | h)
      · exact absurd h.symm e
      · exact h
theorem val_set {vs : List Int} {d c : Nat} {y : Int} (hd : d < vs.length) : val (vs.set d y) c = if c = d then y else val vs c := by
  unfold val
  rw [List.getD_eq_getElem?_getD, List.getElem?_set]
  by_cases e : d = c
  · subst e; simp [hd]
  · rw [if_neg e, if_neg (Ne.symm e), List.getD_eq_getElem?_getD]

/-- nothing that is done is undone -/
theorem Done.keep {d e : Nat} {y z : Int} (ho : Odr lt Acc m M) (hr : d < rs.length) (hv : d < vs.length) (hb : betterP lt rs vs d y = true) (h : Done lt rs vs e z) : Done lt (rs.set d true) (vs.set d y) e z := by
  refine ⟨(isR_set hr).2 (.inr h.1), ?_⟩
  rw [val_set hv]
  by_cases e1 : e = d
  · subst e1
    rw [if_pos rfl]
    have h1 : rs.getD e false = true := by rw [List.getD_eq_getElem?_getD, h.1]; rfl
    have h2 : lt y (val vs e) = true := by
      unfold betterP at hb
      rw [h1] at hb
      simpa [val] using hb
    cases hz : lt z y
    · rfl
    · have := ho.tr _ _ _ hz h2
      rw [h.2] at this
      cases this
  · rw [if_neg e1]; exact h.2

theorem SInv.reach_yes {d : Nat} {y : Int} (ho : Odr lt Acc m M) (h : SInv nb S fst nx lt Acc N Sd P rs vs its) (hd : d < N) (hw : Way nb S fst nx d y) (ha : Acc y) (hb : betterP lt rs vs d y = true) (hp : its'.Perm (((d : Int), y) :: its)) :
    SInv nb S fst nx lt Acc N Sd P (rs.set d true) (vs.set d y) its' ∧ pot m M N (rs.set d true) (vs.set d y) + 1 ≤ pot m M N rs vs ∧ Done lt (rs.set d true) (vs.set d y) d y := by
  have hr : d < rs.length := by rw [h.lrs]; exact hd
  have hv : d < vs.length := by rw [h.lvs]; exact hd
  refine ⟨⟨by rw [List.length_set]; exact h.lrs, by rw [List.length_set]; exact h.lvs, ?_, ?_, ?_, ?_⟩, ?_, ?_⟩
  · intro c hc
    rw [val_set hv]
    by_cases e : c = d
    · subst e; rw [if_pos rfl]; exact ⟨hw, ha⟩
    · rw [if_neg e]
      exact h.way c (((isR_set hr).1 hc).resolve_left e)
  · intro p hpm
    rcases List.mem_cons.1 (hp.mem_iff.1 hpm) with e | e
    · subst e; exact ⟨d, rfl, hd, hw, ha⟩
    · exact h.qu p e
  · intro c hc
    exact (h.sts c hc).keep ho hr hv hb
  · intro c hc
    rw [val_set hv]
    by_cases e : c = d
    · subst e; rw [if_pos rfl]; exact .inl (hp.mem_iff.2 (List.mem_cons_self))
    · rw [if_neg e]
      rcases h.cls c (((isR_set hr).1 hc).resolve_left e) with h1 | h1 | h1
      · exact .inl (hp.mem_iff.2 (List.mem_cons_of_mem _ h1))
      · exact .inr (.inl fun x hx => (h1 x hx).keep ho hr hv hb)
      · exact .inr (.inr h1)
  · unfold pot
    refine psum_lt (c := d) ?_ hd ?_
    · intro i _
      rw [val_set hv]
      by_cases e : i = d
      · subst e
        have e2 : (rs.set i true).getD i false = true := by simp [hr]
        rw [if_pos rfl, if_pos e2]
        by_cases e3 : rs.getD i false = true
        · rw [if_pos e3]
          have h3 : isR rs i := by
            unfold isR
            rw [List.getD_eq_getElem?_getD] at e3
            rw [List.getElem?_eq_getElem hr] at e3 ⊢
            simpa using e3
          have h4 : lt y (val vs i) = true := by
            unfold betterP at hb
            rw [e3] at hb
            simpa [val] using hb
          exact Nat.le_of_lt (ho.dec _ _ ha (h.way i h3).2 h4)
        · rw [if_neg e3]
          have := ho.top y ha
          omega
      · rw [if_neg e]
        have e2 : (rs.set d true).getD i false = rs.getD i false := by
          rw [List.getD_eq_getElem?_getD, List.getElem?_set, if_neg (Ne.symm e), List.getD_eq_getElem?_getD]
        rw [e2]
        exact Nat.le_refl _
    · have e2 : (rs.set d true).getD d false = true := by simp [hr]
      rw [val_set hv, if_pos rfl, if_pos e2]
      by_cases e3 : rs.getD d false = true
      · rw [if_pos e3]
        have h3 : isR rs d := by
          unfold isR
          rw [List.getD_eq_getElem?_getD] at e3
          rw [List.getElem?_eq_getElem hr] at e3 ⊢
          simpa using e3
        have h4 : lt y (val vs d) = true := by
          unfold betterP at hb
          rw [e3] at hb
          simpa [val] using hb
        exact ho.dec _ _ ha (h.way d h3).2 h4
      · rw [if_neg e3]
        have := ho.top y ha
        omega
  · refine ⟨(isR_set hr).2 (.inl rfl), ?_⟩
    rw [val_set hv, if_pos rfl]
    exact ho.irr y

theorem reach_no {d : Nat} {y : Int} (hr : d < rs.length) (hb : betterP lt rs vs d y = false) : Done lt rs vs d y := by
  unfold betterP at hb
  have h1 : rs.getD d false = true ∧ lt y (vs.getD d 0) = false := by simpa using hb
  refine ⟨?_, h1.2⟩
  unfold isR
  have h2 := h1.1
  rw [List.getD_eq_getElem?_getD, List.getElem?_eq_getElem hr] at h2
  rw [List.getElem?_eq_getElem hr]
  simpa using h2

theorem SInv.pop {c : Nat} {x : Int} (h : SInv nb S fst nx lt Acc N Sd (fun _ _ => False) rs vs its) (hp : its.Perm (((c : Int), x) :: its')) :
    SInv nb S fst nx lt Acc N Sd (fun d v => d = c ∧ v = x) rs vs its' := by
  refine ⟨h.lrs, h.lvs, h.way, fun p hm => h.qu p (hp.mem_iff.2 (List.mem_cons_of_mem _ hm)), h.sts, fun d hd => ?_⟩
  rcases h.cls d hd with h1 | h1 | h1
  · rcases List.mem_cons.1 (hp.mem_iff.1 h1) with e | e
    · injection e with e1 e2
      exact .inr (.inr ⟨by omega, e2⟩)
    · exact .inl e
  · exact .inr (.inl h1)
  · exact h1.elim
theorem SInv.popped {c : Nat} {x : Int} (h : SInv nb S fst nx lt Acc N Sd (fun d v => d = c ∧ v = x) rs vs its) (hd : ∀ d, d ∈ nb c → Done lt rs vs d (nx x d)) :
    SInv nb S fst nx lt Acc N Sd (fun _ _ => False) rs vs its := by
  refine ⟨h.lrs, h.lvs, h.way, h.qu, h.sts, fun d hr => ?_⟩
  rcases h.cls d hr with h1 | h1 | ⟨h1, h2⟩
  · exact .inl h1
  · exact .inr (.inl h1)
  · subst h1
    rw [h2]
    exact .inr (.inl hd)
theorem SInv.start {c : Nat} (h : SInv nb S fst nx lt Acc N Sd P rs vs its) (hd : Done lt rs vs c (fst c)) : SInv nb S fst nx lt Acc N (Sd ++ [c]) P rs vs its := by
  refine ⟨h.lrs, h.lvs, h.way, h.qu, fun d hm => ?_, h.cls⟩
  rcases List.mem_append.1 hm with e | e
  · exact h.sts d e
  · rw [List.mem_singleton] at e
    subst e
    exact hd

/-- what the search says in the end -/
structure Best (nb : Nat → List Nat) (S : List Nat) (fst : Nat → Int) (nx : Int → Nat → Int) (lt : Int → Int → Bool) (N : Nat) (vs : List Int) : Prop where
  len : vs.length = N
  way : ∀ c, c < N → (∃ v, Way nb S fst nx c v) → Way nb S fst nx c (val vs c)
  none_ : ∀ c v, c < N → Way nb S fst nx c v → True
  sts : ∀ c, c ∈ S → lt (fst c) (val vs c) = false
  cls : ∀ c d, (∃ v, Way nb S fst nx c v) → d ∈ nb c → lt (nx (val vs c) d) (val vs d) = false

theorem SInv.best (h : SInv nb S fst nx lt Acc N S (fun _ _ => False) rs vs []) : Best nb S fst nx lt N vs := by
  have key : ∀ c v, Way nb S fst nx c v → isR rs c := by
    intro c v hw
    induction hw with
    | start hc => exact (h.sts _ hc).1
    | step hw hd ih =>
      rcases h.cls _ ih with h1 | h1 | h1
      · simp at h1
      · exact (h1 _ hd).1
      · exact h1.elim
  refine ⟨h.lvs, fun c _ ⟨v, hv⟩ => (h.way c (key c v hv)).1, fun _ _ _ _ => trivial, fun c hc => (h.sts c hc).2, fun c d ⟨v, hv⟩ hd => ?_⟩
  rcases h.cls c (key c v hv) with h1 | h1 | h1
  · simp at h1
  · exact (h1 d hd).2
  · exact h1.elim
theorem SInv.init (hN : rs = List.replicate N false) (hV : vs = List.replicate N 0) : SInv nb S fst nx lt Acc N [] (fun _ _ => False) rs vs [] := by
  subst hN hV
  have hno : ∀ c, ¬ isR (List.replicate N false) c := by
    intro c
    unfold isR
    rw [List.getElem?_replicate]
    split <;> simp
  exact ⟨by simp, by simp, fun c hc => absurd hc (hno c), by simp, by simp, fun c hc => absurd hc (hno c)⟩
theorem pot_le (ho : Odr lt Acc m M) (h : SInv nb S fst nx lt Acc N Sd P rs vs its) : pot m M N rs vs ≤ N * (M + 1) := by
  unfold pot
  rw [← psum_const]
  refine psum_le fun i hi => ?_
  split
  · rename_i e
    have hr : i < rs.length := by rw [h.lrs]; exact hi
    have h3 : isR rs i := by
      unfold isR
      rw [List.getD_eq_getElem?_getD] at e
      rw [List.getElem?_eq_getElem hr] at e ⊢
      simpa using e
    have := ho.top _ (h.way i h3).2
    omega
  · exact Nat.le_refl _
end
end Go.Proofs.YthcenmocnphnmaaGreatDoor
/-
  The heap of visits, first part: frames, the orders, swap.
-/
namespace Go.Proofs.YthcenmocnphnmaaGreatDoor
open Go.RowKit

/-- Whatever lay in w, and of which o does not speak, lies in w' as it lay. -/
structure Far (o : Nat → Prop) (w w' : World) : Prop where
  os : w'.os = w.os
  tape : w'.tape = w.tape
  output : w'.output = w.output
  size : w.heap.size ≤ w'.heap.size
  block : ∀ k, k < w.heap.size → ¬ o k → w'.heap[k]? = w.heap[k]?
theorem Far.refl (o : Nat → Prop) (w : World) : Far o w w := ⟨rfl, rfl, rfl, Nat.le_refl _, fun _ _ _ => rfl⟩
theorem Far.trans {o o' : Nat → Prop} {a b c : World} (h : Far o a b) (k : Far o' b c) (ho : ∀ i, i < a.heap.size → o' i → o i) : Far o a c :=
  ⟨k.os.trans h.os, k.tape.trans h.tape, k.output.trans h.output, Nat.le_trans h.size k.size, fun i hi hn => (k.block i (Nat.lt_of_lt_of_le hi h.size) (fun e => hn (ho i hi e))).trans (h.block i hi hn)⟩
theorem Far.mono {o o' : Nat → Prop} {a b : World} (h : Far o a b) (ho : ∀ i, i < a.heap.size → o i → o' i) : Far o' a b :=
  ⟨h.os, h.tape, h.output, h.size, fun i hi hn => h.block i hi (fun e => hn (ho i hi e))⟩
theorem Far.of_below {o : Nat → Prop} {a b : World} (h : Below a.heap.size a b) : Far o a b := ⟨h.os, h.tape, h.output, h.size, fun i hi _ => h.block i hi⟩
theorem Far.below {o : Nat → Prop} {a b : World} {B : Nat} (h : Far o a b) (hB : B ≤ a.heap.size) (ho : ∀ i, i < B → ¬ o i) : Below B a b := ⟨h.os, h.tape, h.output, h.size, fun i hi => h.block i (Nat.lt_of_lt_of_le hi hB) (ho i hi)⟩
theorem Far.drew {o : Nat → Prop} {a w : World} (h : Far o a w) : Far o a w.drew := ⟨h.os, h.tape, h.output, h.size, h.block⟩
theorem Far.drewN {o : Nat → Prop} {a w : World} (h : Far o a w) (n : Nat) : Far o a (w.drewN n) := ⟨h.os, h.tape, h.output, h.size, h.block⟩
theorem Far.alloc {o : Nat → Prop} {a w : World} (h : Far o a w) (x : Obj) : Far o a (w.alloc x) :=
  ⟨h.os, h.tape, h.output, Nat.le_trans h.size (by simp), fun i hi hn => (Below.heap_alloc w x i (Nat.lt_of_lt_of_le hi h.size)).trans (h.block i hi hn)⟩
theorem Far.setCell {o : Nat → Prop} {a w : World} (h : Far o a w) {p : Addr} (hp : o p.block ∨ a.heap.size ≤ p.block) (u : Value) : Far o a (w.setCell p u) :=
  ⟨h.os, h.tape, h.output, by simpa [World.setCell] using h.size, fun i hi hn => (Below.heap_setCell w p u i (by
    rintro rfl
    rcases hp with hp | hp
    · exact hn hp
    · omega)).trans (h.block i hi hn)⟩
theorem Far.grown {o : Nat → Prop} {a w w' : World} {row : Option Nat} (h : Far o a w) (hg : w.grownBy w' row) (hr : ∀ k, row = some k → o k ∨ a.heap.size ≤ k) : Far o a w' :=
  ⟨hg.os.trans h.os, hg.tape.trans h.tape, hg.output.trans h.output, Nat.le_trans h.size hg.size, fun i hi hn => (hg.block i (Nat.lt_of_lt_of_le hi h.size) (fun e => by
    rcases hr i e.symm with h1 | h1
    · exact hn h1
    · omega)).trans (h.block i hi hn)⟩
theorem Far.cell {o : Nat → Prop} {w w' : World} (h : Far o w w') {p : Addr} (hp : p.block < w.heap.size) (hn : ¬ o p.block) : w'.cell? p = w.cell? p := World.cell?_of_block (w := w) (h.block p.block hp hn)
theorem lt_of_heap {w : World} {g : Nat} {o : Obj} (h : w.heap[g]? = some o) : g < w.heap.size := (Array.getElem?_eq_some_iff.1 h).1

/-! Blocks that are known whole. -/
def Blk (w : World) (g : Nat) (t : TypeId) (cs : Array Value) : Prop := w.heap[g]? = some (.cells cs t (0, 0))
section
variable {w w' : World} {g : Nat} {t : TypeId} {cs : Array Value}
theorem Blk.lt (h : Blk w g t cs) : g < w.heap.size := lt_of_heap h
theorem Blk.cell (h : Blk w g t cs) (i : Nat) : w.cell? ⟨g, i, none⟩ = cs[i]? := cell_of_row w g i cs t (0, 0) h
theorem Blk.frozen (h : Blk w g t cs) (i : Nat) : w.frozen? ⟨g, i, none⟩ = false := by
  unfold Blk at h
  simp [World.frozen?, h]
theorem Blk.new (w : World) (t : TypeId) (cs : Array Value) : Blk (w.alloc (.cells cs t)) w.heap.size t cs := heap_alloc_new w _
theorem Blk.new' (w : World) (t : TypeId) (cs : Array Value) {n : Nat} (h : n = w.heap.size) : Blk (w.alloc (.cells cs t)) n t cs := by
  subst h
  exact Blk.new w t cs
theorem Blk.drew (h : Blk w g t cs) : Blk w.drew g t cs := h
theorem Blk.drewN (h : Blk w g t cs) (n : Nat) : Blk (w.drewN n) g t cs := h
theorem Blk.alloc (h : Blk w g t cs) (o : Obj) : Blk (w.alloc o) g t cs := (Below.heap_alloc w o g h.lt).trans h
theorem Blk.set_ (h : Blk w g t cs) (i : Nat) (u : Value) : Blk (w.setCell ⟨g, i, none⟩ u) g t (cs.setIfInBounds i u) := by
  unfold Blk at h ⊢
  simp [World.setCell, Array.getElem?_modify, h]
theorem Blk.far_ (h : Blk w g t cs) {p : Addr} (hp : g ≠ p.block) (u : Value) : Blk (w.setCell p u) g t cs := (Below.heap_setCell w p u g hp).trans h
theorem Blk.below {B : Nat} (h : Blk w g t cs) (hb : Below B w w') (hg : g < B) : Blk w' g t cs := (hb.block g hg).trans h
theorem Blk.far {o : Nat → Prop} (h : Blk w g t cs) (hb : Far o w w') (hg : ¬ o g) : Blk w' g t cs := (hb.block g h.lt hg).trans h
theorem own_blk_ne {base e size n : Nat} {v : Value} {xs : List Value} (h : w.ownsRow base e size v n xs) (hg : Blk w g t cs) (hne : e ≠ t) : v.ownBlock ≠ some g := by
  rcases h.2 with ⟨rfl, _⟩ | ⟨g', cap, cur, rfl, _, hh, _⟩
  · simp [Value.ownBlock]
  · intro he
    have : g' = g := by simpa [Value.ownBlock] using he
    subst this
    unfold Blk at hg
    rw [hg] at hh
    injection hh with hh
    injection hh with _ ht
    exact hne ht.symm
end

theorem own_far {w w' : World} {base e size n : Nat} {v : Value} {xs : List Value} (h : w.ownsRow base e size v n xs) (hk : ∀ g, v.ownBlock = some g → w'.heap[g]? = w.heap[g]?) : w'.ownsRow base e size v n xs := by
  obtain ⟨h1, h2⟩ := h
  refine ⟨h1, ?_⟩
  rcases h2 with h2 | ⟨g, cap, cur, rfl, hg, hh, r⟩
  · exact .inl h2
  · exact .inr ⟨g, cap, cur, rfl, hg, (hk g rfl).trans hh, r⟩

/-! The orders. -/
theorem isNaN_any (a : Int) (w : World) : Calls Tryz.prog 106 #[.int .i64 a] w fun e w' => e = .returned (.bool false) ∧ w = w' := by
  have h : (a != a) = false := by simp
  go_enter Tryz.func106, Tryz.ntmps106
  go_wp2
  go_ret
  exact ⟨rfl, rfl⟩
theorem less_any (a b : Int) (w : World) : Calls Tryz.prog 93 #[.int .i64 a, .int .i64 b] w fun e w' => e = .returned (.bool (decide (a < b))) ∧ w = w' := by
  go_enter Tryz.func93, Tryz.ntmps93
  go_wp2_with (go_at_call 106; refine (isNaN_any _ _).mono ?_; rintro e w' ⟨rfl, rfl⟩)
  go_ret
  exact ⟨rfl, rfl⟩
theorem more_any (a b : Int) (w : World) : Calls Tryz.prog 90 #[.int .i64 a, .int .i64 b] w fun e w' => e = .returned (.bool (decide (b < a))) ∧ w = w' := by
  go_enter Tryz.func90, Tryz.ntmps90
  go_wp2
  go_ret
  exact ⟨rfl, rfl⟩
def ltUp (a b : Int) : Bool := decide (a < b)
def ltDown (a b : Int) : Bool := decide (b < a)
/-- the box fb holds an order -/
def LtAt (w : World) (fb : Nat) (lt : Int → Int → Bool) : Prop :=
  (Blk w fb 129 #[.func (.func 93) #[] #[]] ∧ lt = ltUp) ∨ (Blk w fb 129 #[.func (.func 90) #[] #[]] ∧ lt = ltDown)
theorem LtAt.blk {w : World} {fb : Nat} {lt : Int → Int → Bool} (h : LtAt w fb lt) : ∃ u, Blk w fb 129 #[u] := by
  rcases h with ⟨h, _⟩ | ⟨h, _⟩ <;> exact ⟨_, h⟩
theorem LtAt.far {w w' : World} {fb : Nat} {lt : Int → Int → Bool} (h : LtAt w fb lt) (hk : w'.heap[fb]? = w.heap[fb]?) : LtAt w' fb lt := by
  rcases h with ⟨h, e⟩ | ⟨h, e⟩
  · exact .inl ⟨hk.trans h, e⟩
  · exact .inr ⟨hk.trans h, e⟩
theorem before1_any (c1 v1 c2 v2 : Int) (fb : Nat) (lt : Int → Int → Bool) (w : World) (h : LtAt w fb lt) :
    Calls Tryz.prog 102 #[.agg #[.int .i64 c1, .int .i64 v1], .agg #[.int .i64 c2, .int .i64 v2], .pointer (some ⟨fb, 0, none⟩)] w fun e w' => e = .returned (.bool (lt v1 v2)) ∧ Below w.heap.size w w' := by
  rcases h with ⟨h, rfl⟩ | ⟨h, rfl⟩
  · have hc := h.cell 0
    simp only [List.getElem?_toArray, List.getElem?_cons_zero] at hc
    have hlt := h.lt
    go_enter Tryz.func102, Tryz.ntmps102
    go_wp2_with (go_at_call 93; refine (less_any _ _ _).mono ?_; rintro e w' ⟨rfl, rfl⟩)
    go_ret
    exact ⟨rfl, (by repeat (first | exact Below.refl _ _ | assumption | refine Below.drew ?_ | refine Below.drewN' ?_ _ | (refine Below.alloc ?_ (by simp <;> omega) _) | (refine Below.setCell ?_ (by simp <;> omega) _)))⟩
  · have hc := h.cell 0
    simp only [List.getElem?_toArray, List.getElem?_cons_zero] at hc
    have hlt := h.lt
    go_enter Tryz.func102, Tryz.ntmps102
    go_wp2_with (go_at_call 90; refine (more_any _ _ _).mono ?_; rintro e w' ⟨rfl, rfl⟩)
    go_ret
    exact ⟨rfl, (by repeat (first | exact Below.refl _ _ | assumption | refine Below.drew ?_ | refine Below.drewN' ?_ _ | (refine Below.alloc ?_ (by simp <;> omega) _) | (refine Below.setCell ?_ (by simp <;> omega) _)))⟩

/-! The queue: the struct's block q holds its order and its row of visits. -/
def QueueAt (w : World) (base q fb : Nat) (v : Value) (its : List (Int × Int)) : Prop :=
  Blk w q 140 #[.func (.func 102) #[] #[.pointer (some ⟨fb, 0, none⟩)], v] ∧ w.ownsRow base 136 2 v its.length (spanCells its)

theorem QueueAt.row {w : World} {base q fb : Nat} {v : Value} {its : List (Int × Int)} (h : QueueAt w base q fb v its) (h0 : 0 < its.length) :
    ∃ g cap, v = .slice (some ⟨g, 0, none⟩) its.length cap ∧ base ≤ g ∧ g < w.heap.size ∧ g ≠ q ∧ its.length ≤ cap := by
  rcases h.2.2 with ⟨_, h1⟩ | ⟨g, cap, cur, rfl, h2, h3, h4, _⟩
  · omega
  · refine ⟨g, cap, rfl, h2, lt_of_heap h3, ?_, h4⟩
    have := own_blk_ne h.2 h.1 (by decide)
    rintro rfl
    exact this rfl

end Go.Proofs.YthcenmocnphnmaaGreatDoor
/-
  The heap of visits, second part: swap.
-/
namespace Go.Proofs.YthcenmocnphnmaaGreatDoor
open Go.RowKit

set_option maxHeartbeats 1000000 in
theorem swap_any (base q fb : Nat) (v : Value) (its : List (Int × Int)) (a b : Nat) (w : World) (h : QueueAt w base q fb v its) (ha : a < its.length) (hb : b < its.length) :
    Calls Tryz.prog 114 #[.pointer (some ⟨q, 0, none⟩), .int .i64 a, .int .i64 b] w fun e w' => e = .returned (.tuple #[]) ∧
      QueueAt w' base q fb v ((its.set a its[b]).set b its[a]) ∧ Far (fun k => some k = v.ownBlock) w w' := by
  obtain ⟨g, cap, rfl, hbg, hgs, hgq, hcap⟩ := h.row (by omega)
  obtain ⟨hq, hown⟩ := h
  have q0 := hq.cell 0
  have q1 := hq.cell 1
  simp only [List.getElem?_toArray, List.getElem?_cons_zero, List.getElem?_cons_succ] at q0 q1
  obtain ⟨ca1, ca2⟩ := own_spans_at hown ha
  obtain ⟨cb1, cb2⟩ := own_spans_at hown hb
  have fa1 := hown.frozenAt (a * 2)
  have fa2 := hown.frozenAt (a * 2 + 1)
  have fb1 := hown.frozenAt (b * 2)
  have fb2 := hown.frozenAt (b * 2 + 1)
  have hm : its.length ≤ 9223372036854775807 := by
    have := (Reads.of_own hown).2.1
    exact this
  have hfin : ∀ W : World, W = (((w.setCell ⟨g, a * 2, none⟩ (.int .i64 its[b].1)).setCell ⟨g, a * 2 + 1, none⟩ (.int .i64 its[b].2)).setCell ⟨g, b * 2, none⟩ (.int .i64 its[a].1)).setCell ⟨g, b * 2 + 1, none⟩ (.int .i64 its[a].2) →
      QueueAt W base q fb (.slice (some ⟨g, 0, none⟩) its.length cap) ((its.set a its[b]).set b its[a]) ∧ Far (fun k => some k = (Value.slice (some ⟨g, 0, none⟩) its.length cap).ownBlock) w W := by
    rintro W rfl
    refine ⟨⟨(((hq.far_ (p := ⟨g, a * 2, none⟩) (by simpa using hgq.symm) _).far_ (p := ⟨g, a * 2 + 1, none⟩) (by simpa using hgq.symm) _).far_ (p := ⟨g, b * 2, none⟩) (by simpa using hgq.symm) _).far_ (p := ⟨g, b * 2 + 1, none⟩) (by simpa using hgq.symm) _, ?_⟩, ?_⟩
    · have h1 := own_spans_set hown ha its[b].1 its[b].2
      have h2 := own_spans_set h1 (k := b) (by simpa using hb) its[a].1 its[a].2
      simpa using h2
    · refine Far.setCell (Far.setCell (Far.setCell (Far.setCell (Far.refl _ _) ?_ _) ?_ _) ?_ _) ?_ _ <;> exact .inl rfl
  have Hfin := Lib.hid hfin
  clear hfin hown
  rcases Nat.lt_trichotomy a b with hab | rfl | hab
  · generalize its[a] = x at *
    generalize its[b] = y at *
    obtain ⟨x1, x2⟩ := x
    obtain ⟨y1, y2⟩ := y
    simp only at ca1 ca2 cb1 cb2
    go_enter Tryz.func114, Tryz.ntmps114
    go_wp2
    go_region
    go_end0
    obtain ⟨h1, h2⟩ := Hfin.out _ rfl
    exact ⟨rfl, h1, h2.drew⟩
  · generalize its[a] = x at *
    obtain ⟨x1, x2⟩ := x
    simp only at ca1 ca2 cb1 cb2
    go_enter Tryz.func114, Tryz.ntmps114
    go_wp2
    go_region
    go_end0
    obtain ⟨h1, h2⟩ := Hfin.out _ rfl
    exact ⟨rfl, h1, h2.drew⟩
  · generalize its[a] = x at *
    generalize its[b] = y at *
    obtain ⟨x1, x2⟩ := x
    obtain ⟨y1, y2⟩ := y
    simp only at ca1 ca2 cb1 cb2
    go_enter Tryz.func114, Tryz.ntmps114
    go_wp2
    go_region
    go_end0
    obtain ⟨h1, h2⟩ := Hfin.out _ rfl
    exact ⟨rfl, h1, h2.drew⟩
end Go.Proofs.YthcenmocnphnmaaGreatDoor
/-
  The heap of visits, third part: sink.
-/
namespace Go.Proofs.YthcenmocnphnmaaGreatDoor
open Go.RowKit

theorem QueueAt.shape {w : World} {base q fb : Nat} {v : Value} {its : List (Int × Int)} (h : QueueAt w base q fb v its) :
    ∃ A cap, v = .slice A its.length cap ∧ its.length ≤ cap ∧ its.length ≤ 9223372036854775807 := by
  have := Reads.of_own h.2
  obtain ⟨_, h2, A, c, h3, h4, _⟩ := this
  exact ⟨A, c, h3, h4, h2⟩
theorem QueueAt.cells {w : World} {base q fb : Nat} {v : Value} {its : List (Int × Int)} (h : QueueAt w base q fb v its) :
    w.cell? ⟨q, 0, none⟩ = some (.func (.func 102) #[] #[.pointer (some ⟨fb, 0, none⟩)]) ∧ w.cell? ⟨q, 1, none⟩ = some v ∧ w.frozen? ⟨q, 1, none⟩ = false := by
  have q0 := h.1.cell 0
  have q1 := h.1.cell 1
  simp only [List.getElem?_toArray, List.getElem?_cons_zero, List.getElem?_cons_succ] at q0 q1
  exact ⟨q0, q1, h.1.frozen 1⟩
theorem QueueAt.item {w : World} {base q fb g cap n : Nat} {its : List (Int × Int)} (h : QueueAt w base q fb (.slice (some ⟨g, 0, none⟩) n cap) its) {k : Nat} (hk : k < its.length) :
    w.cell? ⟨g, k * 2, none⟩ = some (.int .i64 its[k].1) ∧ w.cell? ⟨g, k * 2 + 1, none⟩ = some (.int .i64 its[k].2) := by
  have h2 := h.2
  obtain ⟨A, c, e, _, _⟩ := h.shape
  injection e with _ e2 _
  subst e2
  exact own_spans_at h2 hk
/-- new blocks alone: the queue stays -/
theorem QueueAt.below {w w' : World} {base q fb : Nat} {v : Value} {its : List (Int × Int)} (h : QueueAt w base q fb v its) (hb : Below w.heap.size w w') : QueueAt w' base q fb v its := by
  refine ⟨h.1.below hb h.1.lt, ?_⟩
  obtain ⟨h1, h2⟩ := h.2
  refine ⟨h1, ?_⟩
  rcases h2 with h2 | ⟨g, cap, cur, e, hg, hh, r⟩
  · exact .inl h2
  · exact .inr ⟨g, cap, cur, e, hg, (hb.block g (lt_of_heap hh)).trans hh, r⟩
theorem QueueAt.own_ne {w : World} {base q fb : Nat} {v : Value} {its : List (Int × Int)} {g : Nat} {t : TypeId} {cs : Array Value} (h : QueueAt w base q fb v its) (hg : Blk w g t cs) (ht : 136 ≠ t) : ¬ some g = v.ownBlock :=
  fun e => own_blk_ne h.2 hg ht e.symm
theorem LtAt.own_ne {w : World} {base q fb : Nat} {v : Value} {its : List (Int × Int)} {lt : Int → Int → Bool} (hl : LtAt w fb lt) (h : QueueAt w base q fb v its) : ¬ some fb = v.ownBlock := by
  obtain ⟨u, hu⟩ := hl.blk
  exact h.own_ne hu (by decide)
theorem LtAt.q_ne {w : World} {base q fb : Nat} {v : Value} {its : List (Int × Int)} {lt : Int → Int → Bool} (hl : LtAt w fb lt) (h : QueueAt w base q fb v its) : ¬ fb = q := by
  obtain ⟨u, hu⟩ := hl.blk
  rintro rfl
  have := h.1
  unfold Blk at this hu
  rw [hu] at this
  injection this with this
  injection this with _ ht
  exact absurd ht (by decide)
theorem LtAt.blt {w : World} {fb : Nat} {lt : Int → Int → Bool} (hl : LtAt w fb lt) : fb < w.heap.size := by
  obtain ⟨u, hu⟩ := hl.blk
  exact hu.lt

theorem swap_perm {α : Type} (l : List α) (a b : Nat) (ha : a < l.length) (hb : b < l.length) : ((l.set a l[b]).set b l[a]).Perm l := by
  exact List.set_set_perm ha hb
set_option maxRecDepth 100000 in
set_option maxHeartbeats 2000000 in
theorem sink_any (base q fb : Nat) (v : Value) (its : List (Int × Int)) (lt : Int → Int → Bool) (w : World) (h : QueueAt w base q fb v its) (hlt : LtAt w fb lt) (hn : its.length ≤ 4294967296) :
    Calls Tryz.prog 115 #[.pointer (some ⟨q, 0, none⟩)] w fun e w' => e = .returned (.tuple #[]) ∧
      (∃ its', its'.Perm its ∧ QueueAt w' base q fb v its') ∧ Far (fun k => some k = v.ownBlock) w w' := by
  obtain ⟨A, cap, rfl, hcap, hmax⟩ := h.shape
  have hfo := hlt.own_ne h
  have hfb := hlt.blt
  have HLT : ∀ W, Far (fun k => some k = (Value.slice A its.length cap).ownBlock) w W → LtAt W fb lt := fun W hW => hlt.far (hW.block fb hfb hfo)
  have HROW : 0 < its.length → ∃ g, A = some ⟨g, 0, none⟩ := fun h0 => by
    obtain ⟨g, cap', e, _⟩ := h.row h0
    injection e with e1 _ _
    exact ⟨g, e1⟩
  have H := Lib.hid h
  clear h hlt hfo hfb
  generalize hN : its.length = N at *
  have HN := Lib.hid hN
  clear hN
  go_enter Tryz.func115, Tryz.ntmps115
  go_wp2
  go_loopw [2] (fun a wr => ∃ (k : Nat) (l : List (Int × Int)), a = .int .i64 k ∧ (k < N ∨ k = 0) ∧ Hid (l.Perm its) ∧ Hid (QueueAt wr base q fb (.slice A N cap) l) ∧ Far (fun k => some k = (Value.slice A N cap).ownBlock) w wr) (fun a _ => N - (intOf a).toNat)
  case atStart => exact ⟨0, its, rfl, .inr rfl, List.Perm.refl _, H.out, Far.refl _ _⟩
  case round =>
    obtain ⟨k, l, rfl, hk, Hp, Hq, hF⟩ := hrel
    obtain ⟨wo, rfl⟩ : ∃ wo : World, wo = wr := ⟨_, rfl⟩
    have hk4 : k ≤ 4294967296 := by omega
    have HF := Lib.hid hF
    clear hF H
    have Hl : Hid (l.length = N) := by rw [Hid, Hp.out.length_eq, HN.out]
    go_wp2
    go_loopw [3, 4] (fun f c wi => ∃ (i j : Nat), f = .int .i64 i ∧ c = .int .i64 j ∧ (i = k ∨ k < i ∧ i < N) ∧ 2 * k + 1 ≤ j ∧ j ≤ 2 * k + 3 ∧ Hid (QueueAt wi base q fb (.slice A N cap) l) ∧ Hid (Far (fun k => some k = (Value.slice A N cap).ownBlock) w wi)) (fun _ c _ => 2 * k + 3 - (intOf c).toNat)
    case atStart => exact ⟨k, 2 * k + 1, rfl, by go_num, .inl rfl, by omega, by omega, Hq, HF⟩
    case round =>
      obtain ⟨i, j, rfl, rfl, hi, hj1, hj2, Hqi, HFi⟩ := hrel
      clear HF Hq
      obtain ⟨q0, q1, qf⟩ := Hqi.out.cells
      by_cases hc : j ≤ 2 * k + 2 ∧ j < N
      · obtain ⟨hc1, hc2⟩ := hc
        obtain ⟨g, rfl⟩ := HROW (by omega)
        have hil : i < l.length := by rw [Hl.out]; omega
        have hjl : j < l.length := by rw [Hl.out]; omega
        obtain ⟨a1, a2⟩ := Hqi.out.item hil
        obtain ⟨b1, b2⟩ := Hqi.out.item hjl
        have Hlt := Lib.hid (HLT _ HFi.out)
        clear HLT HROW
        generalize l[i] = x at a1 a2
        generalize l[j] = y at b1 b2
        obtain ⟨x1, x2⟩ := x
        obtain ⟨y1, y2⟩ := y
        simp only at a1 a2 b1 b2
        have hcc : ((j : Int) ≤ 2 * (k : Int) + 2) := by omega
        have hiN : i < N := by omega
        cases hv : lt y2 x2
        all_goals
          go_wp2
          go_still_tail 18, (by kernel_rfl)
          go_wp2_with (go_at_call 102; refine (before1_any _ _ _ _ fb lt _ (by exact Hlt.out)).mono ?_; rw [hv]; rintro e w2 ⟨rfl, hb2⟩)
        · go_roundw
          case rel => exact ⟨i, j + 1, rfl, by go_num, hi, by omega, by omega, QueueAt.below (w := wr.drew) Hqi.out hb2, (Far.drew HFi.out).trans (Far.of_below (o := fun _ => False) hb2) (fun _ _ h => h.elim)⟩
          case measure => simp [intOf]; omega
        · go_roundw
          case rel => exact ⟨j, j + 1, rfl, by go_num, .inr ⟨by omega, by omega⟩, by omega, by omega, QueueAt.below (w := wr.drew) Hqi.out hb2, (Far.drew HFi.out).trans (Far.of_below (o := fun _ => False) hb2) (fun _ _ h => h.elim)⟩
          case measure => simp [intOf]; omega
      · have hcc : 2 * k + 2 < j ∨ (j ≤ 2 * k + 2 ∧ N ≤ j) := by omega
        clear hc
        by_cases hik : i = k
        · obtain rfl := hik
          have hEnd : (∃ its', its'.Perm its ∧ QueueAt wr base q fb (.slice A N cap) its') ∧ Far (fun k => some k = (Value.slice A N cap).ownBlock) w wr := ⟨⟨l, Hp.out, Hqi.out⟩, HFi.out⟩
          have HEnd := Lib.hid hEnd
          clear hEnd HLT HROW
          rcases hcc with hc1 | ⟨hc1, hc2⟩
          all_goals
            go_wp2
            refine bodyPost_ret (results_none rfl _ _ _) rfl ?_
            exact ⟨rfl, HEnd.out⟩
        · have hiN : i < N := by omega
          have hki : k < i := by omega
          have hik' : ((i : Int) == (k : Int)) = false := by simp; omega
          clear hik
          have hil : i < l.length := by rw [Hl.out]; omega
          have hkl : k < l.length := by rw [Hl.out]; omega
          clear HLT HROW
          rcases hcc with hc1 | ⟨hc1, hc2⟩
          all_goals
            go_wp2_with (go_at_call 114; refine (swap_any base q fb _ l k i _ (by exact Hqi.out) hkl hil).mono ?_; rintro e w2 ⟨rfl, hq2, hf2⟩; have Hq2 := Lib.hid hq2; clear hq2)
            go_roundw
            case rel =>
              refine ⟨i, _, rfl, .inl hiN, ?_, Hq2.out, HFi.out.trans hf2 (fun _ _ h => h)⟩
              exact (swap_perm l k i hkl hil).trans Hp.out
            case measure => simp [intOf]; omega
end Go.Proofs.YthcenmocnphnmaaGreatDoor
/-
  The heap of visits, fourth part: push.
-/
namespace Go.Proofs.YthcenmocnphnmaaGreatDoor
open Go.RowKit

theorem visit_info : (Tryz.prog.info? 136).map (fun i => (i.zero, i.size, i.bytes)) = some (some (.agg #[.int .i64 0, .int .i64 0]), 2, 16) := by kernel_rfl

set_option maxRecDepth 100000 in
set_option maxHeartbeats 3200000 in
theorem push_any (base q fb : Nat) (v : Value) (its : List (Int × Int)) (lt : Int → Int → Bool) (c x : Int) (w : World) (h : QueueAt w base q fb v its) (hlt : LtAt w fb lt) (hn : its.length ≤ 4294967290) (hbase : base ≤ w.heap.size) :
    Calls Tryz.prog 104 #[.pointer (some ⟨q, 0, none⟩), .agg #[.int .i64 c, .int .i64 x]] w fun e w' => e = .returned (.tuple #[]) ∧
      (∃ v' its', its'.Perm ((c, x) :: its) ∧ QueueAt w' base q fb v' its' ∧ Far (fun k => k = q ∨ some k = v.ownBlock) w w' ∧ (v'.ownBlock = v.ownBlock ∨ ∀ k, v'.ownBlock = some k → w.heap.size ≤ k)) := by
  obtain ⟨i0, hi0, hz0, hz1, hz2⟩ := info_parts visit_info
  have hqn : v.ownBlock ≠ some q := fun e => h.own_ne h.1 (by decide) e.symm
  obtain ⟨q0, q1, qf⟩ := h.cells
  have hqs := h.1.lt
  have hown := h.2
  have H := Lib.hid h
  have HL := Lib.hid hlt
  clear h hlt
  obtain ⟨A, cap, rfl, hcap, hmax⟩ := H.out.shape
  have hm : its.length + 1 ≤ maxLen := by unfold maxLen; omega
  have hbt : (its.length + 1) * 16 ≤ 140737488355328 := by omega
  have hwn : (Value.slice A its.length cap).ownBlock ≠ some w.heap.size := fun e => by have := (hown.lt _ e).2; omega
  have Hnew : Hid (∀ o o' : Obj, ((w.alloc o).alloc o').heap[w.heap.size + 1]? = some o') := fun o o' => by
    have := heap_alloc_new (w.alloc o) o'
    rwa [World.size_alloc] at this
  have HB2 : Hid (∀ o o' : Obj, Below w.heap.size w ((w.alloc o).alloc o')) := fun o o' => ((Below.refl _ _).alloc (Nat.le_refl _) _).alloc (by simp) _
  have Hqf := Lib.hid qf
  clear qf
  have HO := Lib.hid hown
  clear hown
  go_enter Tryz.func104, Tryz.ntmps104
  go_upto_region 1 with fail
  go_cut [] (fun wx => ∃ gg cap', Hid (QueueAt wx base q fb (.slice (some ⟨gg, 0, none⟩) (its.length + 1) cap') (its ++ [(c, x)])) ∧ Hid (Far (fun k => k = q ∨ some k = (Value.slice A its.length cap).ownBlock) w wx) ∧ Hid ((Value.slice A its.length cap).ownBlock = some gg ∨ w.heap.size ≤ gg))
  case first =>
    go_region_law
      ((refine step_append_lies _ (by rfl) _ _ _ (by rfl) base 136 i0 _ 2 16 Tryz.underlying138 hi0 hz0 hz1 hz2 rfl (by omega) (.slice A its.length cap) its.length (spanCells its) (by rfl) (((HO.out.alloc _).alloc _).drew)
          ⟨w.heap.size + 1, 0, none⟩ 1 1 [.int .i64 c, .int .i64 x] (by rfl) (by rfl) (World.news_of_block (cs := #[.int .i64 c, .int .i64 x]) (t := 136) (fr := (0, 0)) (by exact Hnew.out _ _)) (by simp [Value.oneCell'])
          (by omega) hm hbt (by simp; omega) (w.heap.size + 2) (by simp) ?_; intro gg cap' w1 hown1 hgrow hat hltg; have hcq :  w1.cell? ⟨q, 1, none⟩ = some (.slice A its.length cap) := (World.cell?_of_block (hgrow.block q (by simp; omega) (Ne.symm hqn))).trans (by exact ((HB2.out _ _).cell (p := ⟨q, 1, none⟩) hqs).trans q1); have hfz : w1.frozen? ⟨q, 1, none⟩ = false := (World.frozen?_of_block (hgrow.block q (by simp; omega) (Ne.symm hqn))).trans (by exact ((HB2.out _ _).frozen (p := ⟨q, 1, none⟩) hqs).trans Hqf.out)))
    all_goals
      go_wp2_with fail
      go_meet
      have hq1 : Blk w1 q 140 #[.func (.func 102) #[] #[.pointer (some ⟨fb, 0, none⟩)], .slice A its.length cap] := by
        have h1 := (HB2.out (.cells #[.int .i64 c, .int .i64 x] 136) (.cells #[.int .i64 c, .int .i64 x] 136)).block q hqs
        exact (hgrow.block q (by simp; omega) (Ne.symm hqn)).trans (h1.trans H.out.1)
      have hgq : gg ≠ q := by
        rintro rfl
        exact own_blk_ne hown1 hq1 (by decide) rfl
      refine ⟨gg, cap', ⟨hq1.set_ 1 _, ?_⟩, ?_, ?_⟩
      · rw [List.length_append, spanCells_append]
        exact own_far hown1 (fun g hg => Below.heap_setCell _ _ _ _ (by injection hg with hg; subst hg; exact hgq))
      · refine Far.setCell ?_ (.inl (.inl rfl)) _
        refine Far.grown (Far.drew (Far.of_below (HB2.out (.cells #[.int .i64 c, .int .i64 x] 136) (.cells #[.int .i64 c, .int .i64 x] 136)))) hgrow (fun k hk => .inl (.inr hk.symm))
      · rcases hat with h | h
        · exact .inl h
        · exact .inr (by omega)
  case rest =>
    obtain ⟨gg, cap', Hq, Hf, Ho⟩ := hcut
    have HLT : ∀ W, Far (fun k => k = q ∨ some k = (Value.slice A its.length cap).ownBlock) w W → LtAt W fb lt := fun W hW => HL.out.far (hW.block fb HL.out.blt (by
      have h1 := HL.out.own_ne H.out
      have h2 := HL.out.q_ne H.out
      rintro (h | h)
      · exact h2 h
      · exact h1 h))
    clear Hnew HB2 HO hwn q0 q1 hqn H HL hm hbt hmax hcap hi0 hz0 hz1 hz2 Hqf
    obtain ⟨q0, q1, qf⟩ := Hq.out.cells
    go_wp2
    clear q0 q1 qf
    go_loopw [4, 5] (fun a _ wr => ∃ (k : Nat) (l : List (Int × Int)), a = .int .i64 k ∧ k < its.length + 1 ∧ Hid (l.Perm ((c, x) :: its)) ∧ Hid (QueueAt wr base q fb (.slice (some ⟨gg, 0, none⟩) (its.length + 1) cap') l) ∧ Hid (Far (fun k => k = q ∨ some k = (Value.slice A its.length cap).ownBlock) w wr)) (fun a _ _ => (intOf a).toNat)
    case atStart => exact ⟨its.length, _, by go_num, by omega, by exact List.perm_append_comm (l₁ := its) (l₂ := [(c, x)]), Hq, Hf⟩
    case round =>
      obtain ⟨k, l, rfl, hk, Hp, Hqi, HFi⟩ := hrel
      have Hl : Hid (l.length = its.length + 1) := by rw [Hid, Hp.out.length_eq]; rfl
      obtain ⟨q0, q1, qf⟩ := Hqi.out.cells
      have hEnd : (∃ v' its', its'.Perm ((c, x) :: its) ∧ QueueAt wr base q fb v' its' ∧ Far (fun k => k = q ∨ some k = (Value.slice A its.length cap).ownBlock) w wr ∧ (v'.ownBlock = (Value.slice A its.length cap).ownBlock ∨ ∀ k, v'.ownBlock = some k → w.heap.size ≤ k)) :=
        ⟨_, l, Hp.out, Hqi.out, HFi.out, by
          rcases Ho.out with h | h
          · exact .inl h.symm
          · exact .inr (fun k e => by injection e with e; subst e; exact h)⟩
      by_cases h0 : 0 < k
      · obtain ⟨p, hp⟩ : ∃ p : Nat, ((k : Int) - 1) / 2 = p := ⟨((k : Int) - 1).toNat / 2, by omega⟩
        have hpk : p < k := by omega
        have hk1 : (k : Int) < (its.length : Int) + 1 := by omega
        have hp1 : (p : Int) < (its.length : Int) + 1 := by omega
        have hk2 : (0 : Int) ≤ (k : Int) := by omega
        have hp2 : (0 : Int) ≤ (p : Int) := by omega
        have hkl : k < l.length := by rw [Hl.out]; omega
        have hpl : p < l.length := by rw [Hl.out]; omega
        obtain ⟨a1, a2⟩ := Hqi.out.item hkl
        obtain ⟨b1, b2⟩ := Hqi.out.item hpl
        have Hlt := Lib.hid (HLT _ HFi.out)
        clear HLT
        generalize l[k] = y at a1 a2
        generalize l[p] = z at b1 b2
        obtain ⟨y1, y2⟩ := y
        obtain ⟨z1, z2⟩ := z
        simp only at a1 a2 b1 b2
        cases hv : lt y2 z2
        · have HEnd : Hid (∀ W : World, Below wr.drew.heap.size wr.drew W → (∃ v' its', its'.Perm ((c, x) :: its) ∧ QueueAt W base q fb v' its' ∧ Far (fun k => k = q ∨ some k = (Value.slice A its.length cap).ownBlock) w W ∧ (v'.ownBlock = (Value.slice A its.length cap).ownBlock ∨ ∀ k, v'.ownBlock = some k → w.heap.size ≤ k))) := by
            intro W hb2
            obtain ⟨v', its', e1, e2, e3, e4⟩ := hEnd
            exact ⟨v', its', e1, QueueAt.below (w := wr.drew) e2 hb2, (Far.drew e3).trans (Far.of_below (o := fun _ => False) hb2) (fun _ _ h => h.elim), e4⟩
          clear hEnd
          go_wp2
          go_still_tail 18, (by kernel_rfl)
          go_wp2_with (go_at_call 102; refine (before1_any _ _ _ _ fb lt _ (by exact Hlt.out)).mono ?_; rw [hv]; rintro e w2 ⟨rfl, hb2⟩)
          refine bodyPost_ret (results_none rfl _ _ _) rfl ?_
          exact ⟨rfl, HEnd.out _ hb2⟩
        · clear hEnd
          go_wp2
          go_still_tail 18, (by kernel_rfl)
          go_wp2_with (first
            | (go_at_call 102; refine (before1_any _ _ _ _ fb lt _ (by exact Hlt.out)).mono ?_; rw [hv]; rintro e w2 ⟨rfl, hb2⟩)
            | (go_at_call 114; refine (swap_any base q fb _ l k p _ (QueueAt.below (w := wr.drew) Hqi.out hb2) hkl hpl).mono ?_; rintro e w3 ⟨rfl, hq3, hf3⟩; have Hq3 := Lib.hid hq3; clear hq3))
          go_roundw
          case rel =>
            refine ⟨p, _, rfl, by omega, (swap_perm l k p hkl hpl).trans Hp.out, Hq3.out, ?_⟩
            refine ((Far.drew HFi.out).trans (Far.of_below (o := fun _ => False) hb2) (fun _ _ h => h.elim)).trans hf3 ?_
            intro i hi he
            injection he with he
            subst he
            rcases Ho.out with h | h
            · exact .inr h.symm
            · exact absurd hi (by omega)
          case measure => simp [intOf]; omega
      · have HEnd := Lib.hid hEnd
        clear hEnd
        go_wp2
        go_end0
        exact ⟨rfl, HEnd.out⟩
end Go.Proofs.YthcenmocnphnmaaGreatDoor
/-
  The heap of visits, fifth part: pop.
-/
namespace Go.Proofs.YthcenmocnphnmaaGreatDoor
open Go.RowKit

theorem spanCells_concat (l : List (Int × Int)) (h : 0 < l.length) : spanCells l = spanCells l.dropLast ++ [.int .i64 (l[l.length - 1]'(by omega)).1, .int .i64 (l[l.length - 1]'(by omega)).2] := by
  have hne : l ≠ [] := by rintro rfl; simp at h
  have e : l = l.dropLast ++ [l[l.length - 1]'(by omega)] := by
    have := List.dropLast_concat_getLast hne
    rw [List.getLast_eq_getElem] at this
    exact this.symm
  conv => lhs; rw [e]
  rw [spanCells_append]
  rfl

set_option maxRecDepth 100000 in
set_option maxHeartbeats 3200000 in
theorem pop_any (base q fb : Nat) (v : Value) (its : List (Int × Int)) (lt : Int → Int → Bool) (w : World) (h : QueueAt w base q fb v its) (hlt : LtAt w fb lt) (hn : its.length ≤ 4294967296) (h0 : 0 < its.length) :
    Calls Tryz.prog 105 #[.pointer (some ⟨q, 0, none⟩)] w fun e w' => ∃ (it : Int × Int) (v' : Value) (its' : List (Int × Int)), e = .returned (.agg #[.int .i64 it.1, .int .i64 it.2]) ∧
      its.Perm (it :: its') ∧ QueueAt w' base q fb v' its' ∧ Far (fun k => k = q ∨ some k = v.ownBlock) w w' ∧ v'.ownBlock = v.ownBlock := by
  obtain ⟨g, cap, rfl, hbg, hgs, hgq, hcap⟩ := h.row h0
  have hfo := hlt.own_ne h
  have hfq := hlt.q_ne h
  have hfb := hlt.blt
  have HQ0 : Hid (QueueAt (w.alloc (.cells #[.int .i64 0, .int .i64 0] 136)) base q fb (.slice (some ⟨g, 0, none⟩) its.length cap) its) := h.below (Below.alloc (Below.refl _ _) (Nat.le_refl _) _)
  have HL := Lib.hid hlt
  have hqs := h.1.lt
  obtain ⟨q0, q1, qf⟩ := h.cells
  have HNE := Lib.hid (And.intro hfq hfo)
  clear h hlt q0
  have hl1 : its.length - 1 < its.length := by omega
  obtain ⟨m, hm⟩ : ∃ m : Nat, (its.length : Int) - 1 = m := ⟨its.length - 1, by omega⟩
  have hml : m < its.length := by omega
  go_enter Tryz.func105, Tryz.ntmps105
  go_wp2_with fail
  refine (swap_any base q fb _ its 0 m _ HQ0.out h0 hml).mono ?_
  rintro e w1 ⟨rfl, hq1, hf1⟩
  have hln : ((its.set 0 its[m]).set m its[0]).length = its.length := by simp
  have hpm : ((its.set 0 its[m]).set m its[0]).Perm its := swap_perm its 0 m h0 hml
  generalize (its.set 0 its[m]).set m its[0] = l at *
  have Hln := Lib.hid hln
  have Hpm := Lib.hid hpm
  have Hq1 := Lib.hid hq1
  have Hf1 := Lib.hid hf1
  have hmll : m < l.length := by omega
  clear hln hpm hf1
  have hsz := Hf1.out.size
  simp only [World.size_alloc] at hsz
  obtain ⟨q0, q1, qf⟩ := hq1.cells
  obtain ⟨a1, a2⟩ := hq1.item hmll
  have hqs1 := hq1.1.lt
  clear hq1 hfo hfq
  generalize hx : l[m] = x at a1 a2
  have Hx := Lib.hid hx
  clear hx
  obtain ⟨x1, x2⟩ := x
  simp only at a1 a2
  have HQ2 : Hid (QueueAt ((w1.setCell ⟨q, 1, none⟩ (.slice (some ⟨g, 0, none⟩) m cap)).alloc (.cells #[.int .i64 x1, .int .i64 x2] 136)) base q fb (.slice (some ⟨g, 0, none⟩) m cap) l.dropLast) := by
    have h1 := Hq1.out
    refine ⟨(h1.1.set_ 1 _).alloc _, ?_⟩
    have h2 : w1.ownsRow base 136 2 (.slice (some ⟨g, 0, none⟩) (m + 1) cap) (m + 1) (spanCells l.dropLast ++ [.int .i64 (l[l.length - 1]'(by omega)).1, .int .i64 (l[l.length - 1]'(by omega)).2]) := by
      rw [← spanCells_concat l (by omega)]
      have h3 := h1.2
      have e1 : m + 1 = l.length := by have := Hln.out; omega
      have e2 : its.length = l.length := Hln.out.symm
      rw [e1]
      rw [e2] at h3
      exact h3
    have h4 := ownsRow_pop (by rw [spanCells_length, List.length_dropLast]; have := Hln.out; omega) h2
    have e3 : l.dropLast.length = m := by rw [List.length_dropLast]; have := Hln.out; omega
    rw [e3]
    have h5 := own_far (w' := w1.setCell ⟨q, 1, none⟩ (.slice (some ⟨g, 0, none⟩) m cap)) h4 (fun k hk => Below.heap_setCell _ _ _ _ (by have hk' : g = k := Option.some.inj hk; rw [← hk']; exact hgq))
    exact h5.alloc _
  have HF2 : Hid (Far (fun k => k = q ∨ some k = (Value.slice (some ⟨g, 0, none⟩) its.length cap).ownBlock) w ((w1.setCell ⟨q, 1, none⟩ (.slice (some ⟨g, 0, none⟩) m cap)).alloc (.cells #[.int .i64 x1, .int .i64 x2] 136))) :=
    Far.alloc (Far.setCell ((Far.alloc (Far.refl _ w) _).trans Hf1.out (fun i _ hi => .inr hi)) (.inl (.inl rfl)) _) _
  have hd : l.dropLast.length ≤ its.length := by rw [List.length_dropLast, Hln.out]; omega
  have HLT2 : Hid (LtAt ((w1.setCell ⟨q, 1, none⟩ (.slice (some ⟨g, 0, none⟩) m cap)).alloc (.cells #[.int .i64 x1, .int .i64 x2] 136)) fb lt) := HL.out.far (HF2.out.block fb hfb (by
    rintro (h | h)
    · exact HNE.out.1 h
    · exact HNE.out.2 h))
  have hwq : w.heap.size ≠ q := by omega
  have hcw : w1.cell? ⟨w.heap.size, 0, none⟩ = some (.int .i64 0) ∧ w1.cell? ⟨w.heap.size, 1, none⟩ = some (.int .i64 0) ∧ w1.frozen? ⟨w.heap.size, 0, none⟩ = false ∧ w1.frozen? ⟨w.heap.size, 1, none⟩ = false := by
    have hb := (Blk.new w 136 #[.int .i64 0, .int .i64 0]).far Hf1.out (by intro e; have e' : w.heap.size = g := Option.some.inj e; omega)
    exact ⟨hb.cell 0, hb.cell 1, hb.frozen 0, hb.frozen 1⟩
  obtain ⟨r0, r1, s0, s1⟩ := hcw
  go_wp2_with fail
  refine (sink_any base q fb (.slice (some ⟨g, 0, none⟩) m cap) l.dropLast lt _ HQ2.out HLT2.out (Nat.le_trans hd hn)).mono ?_
  rintro e w2 ⟨rfl, hx2, hf2⟩
  have Hx2 := Lib.hid hx2
  clear hx2
  have b2 := Hx2.out
  have hF3 : Far (fun k => k = q ∨ some k = (Value.slice (some ⟨g, 0, none⟩) its.length cap).ownBlock) w w2 := HF2.out.trans hf2 (fun i _ hi => .inr hi)
  have hB3 : Blk w2 w.heap.size 136 #[.int .i64 0, .int .i64 0] := by
    have hb := ((Blk.new w 136 #[.int .i64 0, .int .i64 0]).far Hf1.out (by intro e; have e' : w.heap.size = g := Option.some.inj e; omega))
    exact ((hb.far_ (p := ⟨q, 1, none⟩) hwq _).alloc _).far hf2 (by intro e; have e' : w.heap.size = g := Option.some.inj e; omega)
  have c0 := hB3.cell 0
  have c1 := hB3.cell 1
  have f0 := hB3.frozen 0
  have f1 := hB3.frozen 1
  have i0 : w2.cell? ⟨w1.heap.size, 0, none⟩ = some (.int .i64 x1) ∧ w2.cell? ⟨w1.heap.size, 1, none⟩ = some (.int .i64 x2) := by
    have e0 : (w1.setCell ⟨q, 1, none⟩ (.slice (some ⟨g, 0, none⟩) m cap)).heap.size = w1.heap.size := by simp [World.setCell]
    have hb := (Blk.new (w1.setCell ⟨q, 1, none⟩ (.slice (some ⟨g, 0, none⟩) m cap)) 136 #[.int .i64 x1, .int .i64 x2])
    rw [e0] at hb
    replace hb := hb.far hf2 (by intro e; have e' : w1.heap.size = g := Option.some.inj e; omega)
    exact ⟨hb.cell 0, hb.cell 1⟩
  obtain ⟨i0, i1⟩ := i0
  simp only [List.getElem?_toArray, List.getElem?_cons_zero, List.getElem?_cons_succ] at c0 c1
  have HF3 := Lib.hid hF3
  clear hF3 hf2 hB3 r0 r1 s0 s1 q0 q1 qf a1 a2
  go_wp2
  refine bodyPost_ret (v := .agg #[.int .i64 x1, .int .i64 x2]) (by simp [results, Tryz.results105, go_sem, c0, c1]) rfl ?_
  obtain ⟨l2, hp2, hq2⟩ := Hx2.out
  refine ⟨(x1, x2), .slice (some ⟨g, 0, none⟩) m cap, l2, rfl, ?_, ?_, ?_, rfl⟩
  · have e : l.dropLast ++ [(x1, x2)] = l := by
      have hne : l ≠ [] := by rintro rfl; simp at hmll
      have h1 := List.dropLast_concat_getLast hne
      rw [List.getLast_eq_getElem] at h1
      have h2 : l[l.length - 1]'(by omega) = (x1, x2) := by
        have := Hx.out
        have e2 : m = l.length - 1 := by have := Hln.out; omega
        subst e2
        exact this
      rw [h2] at h1
      exact h1
    refine Hpm.out.symm.trans ?_
    rw [← e]
    exact List.perm_append_comm.trans (List.Perm.cons _ hp2.symm)
  · exact (hq2.1.far_ (p := ⟨w.heap.size, 0, none⟩) (by simp; omega) _).far_ (p := ⟨w.heap.size, 1, none⟩) (by simp; omega) _ |> fun h => ⟨h, own_far hq2.2 (fun k hk => (Below.heap_setCell _ _ _ _ (by have hk' : g = k := Option.some.inj hk; simp; omega)).trans (Below.heap_setCell _ _ _ _ (by have hk' : g = k := Option.some.inj hk; simp; omega)))⟩
  · exact Far.setCell (Far.setCell HF3.out (.inr (Nat.le_refl _)) _) (.inr (Nat.le_refl _)) _
end Go.Proofs.YthcenmocnphnmaaGreatDoor
/-
  The search for the best values: the closure that reaches a cell.
-/
namespace Go.Proofs.YthcenmocnphnmaaGreatDoor
open Go.RowKit

/-- the memory of the search: reached in the row rr (its header in rb), values in the row vr (its header in vb), the queue q, the order in fb -/
structure SearchAt (w : World) (base rb rr vb vr q fb N : Nat) (lt : Int → Int → Bool) (rs : List Bool) (vs : List Int) (v : Value) (its : List (Int × Int)) : Prop where
  hrb : Blk w rb 39 #[.slice (some ⟨rr, 0, none⟩) N N]
  hrr : Blk w rr 4 (rs.map Value.bool).toArray
  hvb : Blk w vb 26 #[.slice (some ⟨vr, 0, none⟩) N N]
  hvr : Blk w vr 3 (vs.map (Value.int .i64)).toArray
  hrs : rs.length = N
  hvs : vs.length = N
  hq : QueueAt w base q fb v its
  hlt : LtAt w fb lt

theorem blk_ne {w : World} {g g' : Nat} {t t' : TypeId} {cs cs' : Array Value} (h : Blk w g t cs) (h' : Blk w g' t' cs') (hne : t ≠ t') : g ≠ g' := by
  rintro rfl
  unfold Blk at h h'
  rw [h] at h'
  injection h' with h'
  injection h' with _ ht
  exact hne ht

theorem SearchAt.below {w w' : World} {base rb rr vb vr q fb N : Nat} {lt : Int → Int → Bool} {rs : List Bool} {vs : List Int} {v : Value} {its : List (Int × Int)}
    (h : SearchAt w base rb rr vb vr q fb N lt rs vs v its) (hb : Below w.heap.size w w') : SearchAt w' base rb rr vb vr q fb N lt rs vs v its :=
  ⟨h.hrb.below hb h.hrb.lt, h.hrr.below hb h.hrr.lt, h.hvb.below hb h.hvb.lt, h.hvr.below hb h.hvr.lt, h.hrs, h.hvs, h.hq.below hb, h.hlt.far (hb.block fb h.hlt.blt)⟩

def better (lt : Int → Int → Bool) (rs : List Bool) (vs : List Int) (c : Nat) (x : Int) : Bool := !(rs.getD c false) || lt x (vs.getD c 0)

set_option maxRecDepth 100000 in
set_option maxHeartbeats 3200000 in
theorem reach_any (base rb rr vb vr q fb N : Nat) (lt : Int → Int → Bool) (rs : List Bool) (vs : List Int) (v : Value) (its : List (Int × Int)) (c : Nat) (x : Int) (w : World)
    (h : SearchAt w base rb rr vb vr q fb N lt rs vs v its) (hc : c < N) (_hN : N ≤ 65536) (hn : its.length ≤ 4294967290) (hbase : base ≤ w.heap.size) :
    Calls Tryz.prog 103 #[.int .i64 c, .int .i64 x, .pointer (some ⟨rb, 0, none⟩), .pointer (some ⟨fb, 0, none⟩), .pointer (some ⟨vb, 0, none⟩), .pointer (some ⟨q, 0, none⟩)] w fun e w' => e = .returned (.tuple #[]) ∧
      ((better lt rs vs c x = true ∧ ∃ v' its', its'.Perm (((c : Int), x) :: its) ∧ SearchAt w' base rb rr vb vr q fb N lt (rs.set c true) (vs.set c x) v' its' ∧ Far (fun k => k = q ∨ some k = v.ownBlock ∨ k = rr ∨ k = vr) w w' ∧ (v'.ownBlock = v.ownBlock ∨ ∀ k, v'.ownBlock = some k → w.heap.size ≤ k)) ∨
       (better lt rs vs c x = false ∧ SearchAt w' base rb rr vb vr q fb N lt rs vs v its ∧ Below w.heap.size w w')) := by
  have a0 := h.hrb.cell 0
  have b0 := h.hvb.cell 0
  have a1 := h.hrr.cell c
  have b1 := h.hvr.cell c
  have a2 := h.hrr.frozen c
  have b2 := h.hvr.frozen c
  have hcr : c < rs.length := by rw [h.hrs]; exact hc
  have hcv : c < vs.length := by rw [h.hvs]; exact hc
  have hbt : better lt rs vs c x = (!rs[c] || lt x vs[c]) := by simp [better, hcr, hcv]
  simp only [List.getElem?_toArray, List.getElem?_cons_zero, List.getElem?_map, List.getElem?_eq_getElem hcr, List.getElem?_eq_getElem hcv, Option.map_some] at a0 b0 a1 b1
  generalize hr : rs[c] = r at *
  generalize hy : vs[c] = y at *
  have Hbt := Lib.hid hbt
  clear hbt hr hy hcr hcv
  have e1 := blk_ne h.hrr h.hvr (by decide)
  have e2 := blk_ne h.hrr h.hvb (by decide)
  have e3 := blk_ne h.hvr h.hrb (by decide)
  have HS := Lib.hid h
  have hlt := h.hlt
  clear h
  have h0 : (0 : Int) ≤ (c : Int) := by omega
  have h1 : (c : Int) < (N : Int) := by omega
  have HS1 : Hid (SearchAt ((w.setCell ⟨rr, c, none⟩ (.bool true)).setCell ⟨vr, c, none⟩ (.int .i64 x)) base rb rr vb vr q fb N lt (rs.set c true) (vs.set c x) v its) := by
    have h := HS.out
    have n1 := blk_ne h.hrb h.hrr (by decide)
    have n2 := blk_ne h.hrb h.hvr (by decide)
    have n3 := blk_ne h.hvb h.hrr (by decide)
    have n4 := blk_ne h.hvb h.hvr (by decide)
    have n5 := blk_ne h.hq.1 h.hrr (by decide)
    have n6 := blk_ne h.hq.1 h.hvr (by decide)
    obtain ⟨u, hu⟩ := h.hlt.blk
    have n7 := blk_ne hu h.hrr (by decide)
    have n8 := blk_ne hu h.hvr (by decide)
    have n9 := h.hq.own_ne h.hrr (by decide)
    have n10 := h.hq.own_ne h.hvr (by decide)
    refine ⟨(h.hrb.far_ (p := ⟨rr, c, none⟩) n1 _).far_ (p := ⟨vr, c, none⟩) n2 _, ?_, (h.hvb.far_ (p := ⟨rr, c, none⟩) n3 _).far_ (p := ⟨vr, c, none⟩) n4 _, ?_, by rw [List.length_set]; exact h.hrs, by rw [List.length_set]; exact h.hvs, ⟨(h.hq.1.far_ (p := ⟨rr, c, none⟩) n5 _).far_ (p := ⟨vr, c, none⟩) n6 _, ?_⟩, ?_⟩
    · have := (h.hrr.set_ c (.bool true)).far_ (p := ⟨vr, c, none⟩) e1 (.int .i64 x)
      simpa [List.map_set] using this
    · have := (h.hvr.far_ (p := ⟨rr, c, none⟩) (Ne.symm e1) (.bool true)).set_ c (.int .i64 x)
      simpa [List.map_set] using this
    · exact own_far h.hq.2 (fun k hk => (Below.heap_setCell _ _ _ _ (by rintro rfl; exact n10 hk.symm)).trans (Below.heap_setCell _ _ _ _ (by rintro rfl; exact n9 hk.symm)))
    · exact h.hlt.far ((Below.heap_setCell _ _ _ _ n8).trans (Below.heap_setCell _ _ _ _ n7))
  have hEnd : ∀ (W0 W : World), W0.heap = ((w.setCell ⟨rr, c, none⟩ (.bool true)).setCell ⟨vr, c, none⟩ (.int .i64 x)).heap → W0.os = w.os → W0.tape = w.tape → W0.output = w.output →
      (∃ v' its', its'.Perm (((c : Int), x) :: its) ∧ QueueAt W base q fb v' its' ∧ Far (fun k => k = q ∨ some k = v.ownBlock) W0 W ∧ (v'.ownBlock = v.ownBlock ∨ ∀ k, v'.ownBlock = some k → W0.heap.size ≤ k)) →
      ∃ v' its', its'.Perm (((c : Int), x) :: its) ∧ SearchAt W base rb rr vb vr q fb N lt (rs.set c true) (vs.set c x) v' its' ∧ Far (fun k => k = q ∨ some k = v.ownBlock ∨ k = rr ∨ k = vr) w W ∧ (v'.ownBlock = v.ownBlock ∨ ∀ k, v'.ownBlock = some k → w.heap.size ≤ k) := by
    rintro W0 W hh ho ht hu ⟨v', its', p1, p2, p3, p4⟩
    have hs := HS1.out
    have hsz : W0.heap.size = w.heap.size := by rw [hh]; simp [World.setCell]
    have far : ∀ {g t cs}, Blk ((w.setCell ⟨rr, c, none⟩ (.bool true)).setCell ⟨vr, c, none⟩ (.int .i64 x)) g t cs → g ≠ q → ¬ some g = v.ownBlock → Blk W g t cs := by
      intro g t cs hb n1 n2
      have hb' : Blk W0 g t cs := by unfold Blk at hb ⊢; rw [hh]; exact hb
      exact hb'.far p3 (by rintro (e | e); exact n1 e; exact n2 e)
    refine ⟨v', its', p1, ⟨far hs.hrb (blk_ne hs.hrb hs.hq.1 (by decide)) (hs.hq.own_ne hs.hrb (by decide)), far hs.hrr (blk_ne hs.hrr hs.hq.1 (by decide)) (hs.hq.own_ne hs.hrr (by decide)), far hs.hvb (blk_ne hs.hvb hs.hq.1 (by decide)) (hs.hq.own_ne hs.hvb (by decide)), far hs.hvr (blk_ne hs.hvr hs.hq.1 (by decide)) (hs.hq.own_ne hs.hvr (by decide)), hs.hrs, hs.hvs, p2, ?_⟩, ?_, ?_⟩
    · refine hs.hlt.far ?_
      have hb := hs.hlt.blt
      rw [← hh] at hb
      rw [p3.block fb hb (by rintro (e | e); exact hs.hlt.q_ne hs.hq e; exact hs.hlt.own_ne hs.hq e), hh]
    · have f0 : Far (fun k => k = q ∨ some k = v.ownBlock ∨ k = rr ∨ k = vr) w W0 := by
        have := Far.setCell (o := fun k => k = q ∨ some k = v.ownBlock ∨ k = rr ∨ k = vr) (Far.setCell (Far.refl _ w) (p := ⟨rr, c, none⟩) (.inl (.inr (.inr (.inl rfl)))) (.bool true)) (p := ⟨vr, c, none⟩) (.inl (.inr (.inr (.inr rfl)))) (.int .i64 x)
        exact ⟨ho, ht, hu, by rw [hsz]; exact Nat.le_refl _, fun k hk hn => by rw [hh]; exact this.block k hk hn⟩
      exact f0.trans p3 (fun i _ hi => by rcases hi with e | e; exact .inl e; exact .inr (.inl e))
    · rw [hsz] at p4
      exact p4
  have HEnd := Lib.hid hEnd
  clear hEnd
  cases r with
  | true =>
    cases hv : lt x y with
    | false =>
      have Hf : Hid (better lt rs vs c x = false) := by rw [Hid, Hbt.out, hv]; rfl
      have HS0 := Lib.hid HS.out
      rcases hlt with ⟨hb, rfl⟩ | ⟨hb, rfl⟩
      all_goals
        have c0 := hb.cell 0
        simp only [List.getElem?_toArray, List.getElem?_cons_zero] at c0
        clear hb
        simp only [ltUp, ltDown] at hv
        go_enter Tryz.func103, Tryz.ntmps103
        go_wp2
        go_quiet (first | (go_at_call 93; exact quiet_left (less_any _ _ _)) | (go_at_call 90; exact quiet_left (more_any _ _ _)))
        go_wp2
        go_end0
        exact ⟨rfl, .inr ⟨Hf.out, HS0.out.below (Below.drewN' (Below.refl _ _) _), Below.drewN' (Below.refl _ _) _⟩⟩
    | true =>
      have Hf : Hid (better lt rs vs c x = true) := by rw [Hid, Hbt.out, hv]; rfl
      rcases hlt with ⟨hb, rfl⟩ | ⟨hb, rfl⟩
      all_goals
        have c0 := hb.cell 0
        simp only [List.getElem?_toArray, List.getElem?_cons_zero] at c0
        clear hb
        simp only [ltUp, ltDown] at hv
        go_enter Tryz.func103, Tryz.ntmps103
        go_wp2
        go_quiet (first | (go_at_call 93; exact quiet_left (less_any _ _ _)) | (go_at_call 90; exact quiet_left (more_any _ _ _)))
        clear c0 hv
        go_wp2
        go_region
        go_wp2_with (go_at_call 104; refine (push_any base q fb v its _ (c : Int) x _ (by exact HS1.out.hq) (by exact HS1.out.hlt) hn (by simpa using hbase)).mono ?_; rintro e w2 ⟨rfl, hp⟩; have Hp := Lib.hid hp; clear hp)
        go_end0
        refine ⟨rfl, .inl ⟨Hf.out, ?_⟩⟩
        refine HEnd.out _ _ ?_ ?_ ?_ ?_ Hp.out <;> rfl
  | false =>
    have Hf : Hid (better lt rs vs c x = true) := by rw [Hid, Hbt.out]; rfl
    go_enter Tryz.func103, Tryz.ntmps103
    go_wp2
    go_quiet (fail)
    go_wp2
    go_region
    go_wp2_with (go_at_call 104; refine (push_any base q fb v its _ (c : Int) x _ (by exact HS1.out.hq) (by exact HS1.out.hlt) hn (by simpa using hbase)).mono ?_; rintro e w2 ⟨rfl, hp⟩; have Hp := Lib.hid hp; clear hp)
    go_end0
    refine ⟨rfl, .inl ⟨Hf.out, ?_⟩⟩
    refine HEnd.out _ _ ?_ ?_ ?_ ?_ Hp.out <;> rfl
end Go.Proofs.YthcenmocnphnmaaGreatDoor
