/-
  The search for the best values: the memory of the function between two steps.
-/
import Derived.Test.YthcenmocnphnmaaGreatDoorMD
import Derived.Test.YthcenmocnphnmaaGreatDoorMB
import Derived.Laws.EntriesVeiled
set_option linter.unusedSimpArgs false
set_option linter.unusedVariables false
namespace Go.Proofs.YthcenmocnphnmaaGreatDoor
open Go.RowKit Go.Shelf

/-- the memory of best: n is the heap's size when it was called -/
structure BSt (n : Nat) (w W : World) (gc : Array Value) (nv : Value) (N : Nat) (lt : Int → Int → Bool) (rs : List Bool) (vs : List Int) (v : Value) (its : List (Int × Int)) : Prop where
  se : SearchAt W (n + 1 + 1 + 1 + 1 + 1 + 1 + 1 + 1 + 1) (n + 1 + 1 + 1 + 1 + 1 + 1) (n + 1 + 1 + 1 + 1 + 1) (n + 1 + 1 + 1 + 1) (n + 1 + 1 + 1) (n + 1 + 1 + 1 + 1 + 1 + 1 + 1) (n + 1 + 1) N lt rs vs v its
  b0 : Blk W n 24 gc
  b1 : Blk W (n + 1) 128 #[nv]
  b8 : Blk W (n + 1 + 1 + 1 + 1 + 1 + 1 + 1 + 1) 142 #[.func (.func 103) #[] #[.pointer (some ⟨n + 1 + 1 + 1 + 1 + 1 + 1, 0, none⟩), .pointer (some ⟨n + 1 + 1, 0, none⟩), .pointer (some ⟨n + 1 + 1 + 1 + 1, 0, none⟩), .pointer (some ⟨n + 1 + 1 + 1 + 1 + 1 + 1 + 1, 0, none⟩)]]
  bel : Below n w W
  siz : n + 9 ≤ W.heap.size
  own : ∀ k, v.ownBlock = some k → n + 9 ≤ k

section
variable {n N : Nat} {w W W' : World} {gc : Array Value} {nv : Value} {lt : Int → Int → Bool} {rs : List Bool} {vs : List Int} {v : Value} {its : List (Int × Int)}
theorem BSt.below (h : BSt n w W gc nv N lt rs vs v its) (hb : Below W.heap.size W W') : BSt n w W' gc nv N lt rs vs v its :=
  ⟨h.se.below hb, h.b0.below hb h.b0.lt, h.b1.below hb h.b1.lt, h.b8.below hb h.b8.lt, h.bel.trans (hb.mono (by have := h.siz; omega)), Nat.le_trans h.siz hb.size, h.own⟩
theorem BSt.drew (h : BSt n w W gc nv N lt rs vs v its) : BSt n w W.drew gc nv N lt rs vs v its := h.below (Below.drew (Below.refl _ _))
theorem BSt.drewN (h : BSt n w W gc nv N lt rs vs v its) (k : Nat) : BSt n w (W.drewN k) gc nv N lt rs vs v its := h.below (Below.drewN' (Below.refl _ _) k)

/-- what must not be touched by a step of the queue, or of the rows -/
theorem BSt.step {rs' : List Bool} {vs' : List Int} {v' : Value} {its' : List (Int × Int)} (h : BSt n w W gc nv N lt rs vs v its)
    (hs : SearchAt W' (n + 1 + 1 + 1 + 1 + 1 + 1 + 1 + 1 + 1) (n + 1 + 1 + 1 + 1 + 1 + 1) (n + 1 + 1 + 1 + 1 + 1) (n + 1 + 1 + 1 + 1) (n + 1 + 1 + 1) (n + 1 + 1 + 1 + 1 + 1 + 1 + 1) (n + 1 + 1) N lt rs' vs' v' its')
    (hf : Far (fun k => k = n + 1 + 1 + 1 + 1 + 1 + 1 + 1 ∨ some k = v.ownBlock ∨ k = n + 1 + 1 + 1 + 1 + 1 ∨ k = n + 1 + 1 + 1) W W')
    (ho : v'.ownBlock = v.ownBlock ∨ ∀ k, v'.ownBlock = some k → W.heap.size ≤ k) : BSt n w W' gc nv N lt rs' vs' v' its' := by
  have no : ∀ k, k < n + 9 → k ≠ n + 1 + 1 + 1 + 1 + 1 + 1 + 1 → k ≠ n + 1 + 1 + 1 + 1 + 1 → k ≠ n + 1 + 1 + 1 → ¬ (k = n + 1 + 1 + 1 + 1 + 1 + 1 + 1 ∨ some k = v.ownBlock ∨ k = n + 1 + 1 + 1 + 1 + 1 ∨ k = n + 1 + 1 + 1) := by
    rintro k h1 h2 h3 h4 (e | e | e | e)
    · exact h2 e
    · have := h.own k e.symm; omega
    · exact h3 e
    · exact h4 e
  have hsz := h.siz
  refine ⟨hs, h.b0.far hf (no _ (by omega) (by omega) (by omega) (by omega)), h.b1.far hf (no _ (by omega) (by omega) (by omega) (by omega)), h.b8.far hf (no _ (by omega) (by omega) (by omega) (by omega)), ?_, Nat.le_trans h.siz hf.size, ?_⟩
  · exact h.bel.trans (hf.below (by omega) (fun i hi => no i (by omega) (by omega) (by omega) (by omega)))
  · intro k hk
    rcases ho with e | e
    · rw [e] at hk; exact h.own k hk
    · have := e k hk; omega
end

/-- the cells that the neighbors lead to -/
theorem nearL_rng {g : G} (V : Valid g) {c : Nat} (hc : c < g.ss.length) : ∀ d ∈ nearL g c, 0 ≤ d ∧ d < g.ss.length := by
  have h1 := V.w1
  have h2 := V.h1
  have hl := V.len
  have e := Int.emod_add_mul_ediv (c : Int) g.W
  have m0 := Int.emod_nonneg (c : Int) (show g.W ≠ 0 by omega)
  have m1 := Int.emod_lt_of_pos (c : Int) (show (0 : Int) < g.W by omega)
  have q0 : (0 : Int) ≤ (c : Int) / g.W := Int.ediv_nonneg (by omega) (by omega)
  have q1 : (c : Int) / g.W < g.H := by
    rw [Int.ediv_lt_iff_lt_mul (by omega), Int.mul_comm, ← hl]
    omega
  generalize (c : Int) % g.W = X at *
  generalize hY : (c : Int) / g.W = Y at *
  have hstep : ∀ Z : Int, Z < g.H → 0 ≤ Z → g.W * Z + X < g.ss.length := by
    intro Z hz _
    rw [hl]
    have : g.W * (Z + 1) ≤ g.W * g.H := Int.mul_le_mul_of_nonneg_left (by omega) (by omega)
    rw [Int.mul_add, Int.mul_one] at this
    omega
  intro d hd
  unfold nearL nbl at hd
  rw [show (c : Int) / g.W = Y from hY] at hd
  have hX : (c : Int) % g.W = X := by
    have := Int.emod_add_mul_ediv (c : Int) g.W
    rw [hY] at this
    omega
  rw [hX] at hd
  have hpos : ∀ Z : Int, 0 ≤ Z → 0 ≤ g.W * Z := fun Z hz => Int.mul_nonneg (by omega) hz
  have a1 := hstep Y q1 q0
  have a0 := hpos Y q0
  simp only [List.mem_append] at hd
  rcases hd with h | h | h | h <;> split at h <;> simp only [List.mem_singleton, List.not_mem_nil] at h
  · subst h
    have : g.W * Y + (X + 1) < g.ss.length := by
      rw [hl]
      have : g.W * (Y + 1) ≤ g.W * g.H := Int.mul_le_mul_of_nonneg_left (by omega) (by omega)
      rw [Int.mul_add, Int.mul_one] at this
      omega
    omega
  · subst h
    rename_i h5
    have b1 := hstep (Y + 1) (by omega) (by omega)
    rw [Int.mul_add, Int.mul_one] at b1
    omega
  · subst h
    omega
  · subst h
    rename_i h5
    have b1 := hpos (Y - 1) (by omega)
    rw [Int.mul_sub, Int.mul_one] at b1
    omega
theorem sub_list {N : Nat} : ∀ (l : List Int), (∀ d, d ∈ l → 0 ≤ d ∧ d < (N : Int)) → ∃ L : List { d : Nat // d < N }, L.map (fun a => ((a.1 : Nat) : Int)) = l
  | [], _ => ⟨[], rfl⟩
  | d :: l, h => by
    obtain ⟨L, hL⟩ := sub_list l (fun x hx => h x (List.mem_cons_of_mem _ hx))
    have hd := h d List.mem_cons_self
    exact ⟨⟨d.toNat, by omega⟩ :: L, by simp [hL]; omega⟩
theorem map_toNat {N : Nat} {L : List { d : Nat // d < N }} {l : List Int} (h : L.map (fun a => ((a.1 : Nat) : Int)) = l) : l.map Int.toNat = L.map (fun a => a.1) := by
  subst h
  rw [List.map_map]
  rfl
end Go.Proofs.YthcenmocnphnmaaGreatDoor
/-
  The search for the best values: one call of the closure that reaches a cell, in the words of the search.
-/
namespace Go.Proofs.YthcenmocnphnmaaGreatDoor
open Go.RowKit Go.Shelf

/-- what a call of reach leaves -/
structure Reached (n : Nat) (w W W' : World) (gc : Array Value) (nv : Value) (N : Nat) (lt : Int → Int → Bool) (nb : Nat → List Nat) (S : List Nat) (fst : Nat → Int) (nx : Int → Nat → Int) (Acc : Int → Prop) (m : Int → Nat) (M K : Nat) (Sd : List Nat) (P : Nat → Int → Prop)
    (d : Nat) (y : Int) (rs : List Bool) (vs : List Int) (v : Value) (rs' : List Bool) (vs' : List Int) (v' : Value) (its' : List (Int × Int)) : Prop where
  bst : BSt n w W' gc nv N lt rs' vs' v' its'
  inv : SInv nb S fst nx lt Acc N Sd P rs' vs' its'
  bd : 2 * pot m M N rs' vs' + its'.length ≤ K
  don : Done lt rs' vs' d y
  kp : ∀ e z, Done lt rs vs e z → Done lt rs' vs' e z
  far : Far (fun k => k = n + 1 + 1 + 1 + 1 + 1 + 1 + 1 ∨ some k = v.ownBlock ∨ k = n + 1 + 1 + 1 + 1 + 1 ∨ k = n + 1 + 1 + 1) W W'
  own : v'.ownBlock = v.ownBlock ∨ ∀ k, v'.ownBlock = some k → W.heap.size ≤ k

theorem reach_step {n N : Nat} {w W : World} {gc : Array Value} {nv : Value} {lt : Int → Int → Bool} {nb : Nat → List Nat} {S : List Nat} {fst : Nat → Int} {nx : Int → Nat → Int} {Acc : Int → Prop} {m : Int → Nat} {M K : Nat} {Sd : List Nat} {P : Nat → Int → Prop}
    {rs : List Bool} {vs : List Int} {v : Value} {its : List (Int × Int)} (ho : Odr lt Acc m M) (h : BSt n w W gc nv N lt rs vs v its) (hi : SInv nb S fst nx lt Acc N Sd P rs vs its) (hb : 2 * pot m M N rs vs + its.length ≤ K) (hK : K ≤ 4294967290) (hN : N ≤ 65536)
    (d : Nat) (y : Int) (hd : d < N) (hw : Way nb S fst nx d y) (ha : betterP lt rs vs d y = true → Acc y) :
    Calls Tryz.prog 103 #[.int .i64 d, .int .i64 y, .pointer (some ⟨n + 1 + 1 + 1 + 1 + 1 + 1, 0, none⟩), .pointer (some ⟨n + 1 + 1, 0, none⟩), .pointer (some ⟨n + 1 + 1 + 1 + 1, 0, none⟩), .pointer (some ⟨n + 1 + 1 + 1 + 1 + 1 + 1 + 1, 0, none⟩)] W fun e W' =>
      e = .returned (.tuple #[]) ∧ ∃ rs' vs' v' its', Reached n w W W' gc nv N lt nb S fst nx Acc m M K Sd P d y rs vs v rs' vs' v' its' := by
  refine (reach_any _ _ _ _ _ _ _ N lt rs vs v its d y W h.se hd hN (by omega) (by have := h.siz; omega)).mono ?_
  rintro e W' ⟨rfl, ⟨hbt, v', its', hp, hs, hf, hown⟩ | ⟨hbt, hs, hbl⟩⟩
  · have hbt' : betterP lt rs vs d y = true := hbt
    obtain ⟨h1, h2, h3⟩ := hi.reach_yes ho hd hw (ha hbt') hbt' hp
    refine ⟨rfl, _, _, v', its', h.step hs hf hown, h1, ?_, h3, ?_, hf, hown⟩
    · have := hp.length_eq
      rw [List.length_cons] at this
      omega
    · intro e z hz
      exact hz.keep ho (by rw [hi.lrs]; exact hd) (by rw [hi.lvs]; exact hd) hbt'
  · exact ⟨rfl, rs, vs, v, its, h.below hbl, hi, hb, reach_no (by rw [hi.lrs]; exact hd) hbt, fun e z hz => hz, Far.of_below hbl, .inl rfl⟩
end Go.Proofs.YthcenmocnphnmaaGreatDoor
/-
  A loop by a number that sinks; the marks that ranges over functions leave among the deferred calls.
-/
namespace Go.Proofs.YthcenmocnphnmaaGreatDoor
open Go.RowKit Go.Shelf

theorem exists_min (p : Nat → Prop) (h : ∃ n, p n) : ∃ n, p n ∧ ∀ m, p m → n ≤ m := by
  obtain ⟨n, hn⟩ := h
  induction n using Nat.strongRecOn with
  | _ n ih =>
    by_cases hm : ∃ m, m < n ∧ p m
    · obtain ⟨m, hlt, hp⟩ := hm
      exact ih m hlt hp
    · exact ⟨n, hn, fun m hp => by
        rcases Nat.lt_or_ge m n with h | h
        · exact absurd ⟨m, h, hp⟩ hm
        · exact h⟩
theorem wp_loop_idx {P : Program} {Q : Exit → Act → World → Prop} {c : Code} {a : Act} {w : World} (I : Nat → Act → World → Prop) {n : Nat} (h0 : I n a w)
    (round : ∀ n a w, I n a w → c.wp P (Exit.then (fun a' w' => ∃ m, m < n ∧ I m a' w') Q) a w) : (Code.loop c).wp P Q a w := by
  classical
  let μ : Act → World → Nat := fun a w => if h : ∃ n, I n a w then Classical.choose (exists_min (fun n => I n a w) h) else 0
  have hμ : ∀ a w (h : ∃ n, I n a w), I (μ a w) a w ∧ ∀ m, I m a w → μ a w ≤ m := by
    intro a w h
    have := Classical.choose_spec (exists_min (fun n => I n a w) h)
    simp only [μ, dif_pos h]
    exact this
  refine wp_loop (fun a w => ∃ n, I n a w) μ ⟨n, h0⟩ ?_
  intro a w hI
  refine wp_mono (round (μ a w) a w (hμ a w hI).1) ?_
  intro e a' w' h
  cases e with
  | normal =>
    obtain ⟨m, hm, hi⟩ := h
    exact ⟨⟨m, hi⟩, Nat.lt_of_le_of_lt ((hμ a' w' ⟨m, hi⟩).2 m hi) hm⟩
  | exit id => exact h
  | goto l => exact h
  | ret => exact h
  | panic ch => exact h
  | outgrown => exact h

def mark (D : Nat) : Deferred := { target := .collected D, args := #[] }
/-- the blocks of the marks, each new, each open and empty -/
def Marks (W : World) (B : Nat) (ds : List Deferred) : Prop := ∃ Ds : List Nat, ds = Ds.map mark ∧ Ds.Pairwise (· ≠ ·) ∧ ∀ D, D ∈ Ds → B ≤ D ∧ W.heap[D]? = some (.deferred (some []))
theorem Marks.nil (W : World) (B : Nat) : Marks W B [] := ⟨[], rfl, List.Pairwise.nil, by simp⟩
theorem Marks.keep {W W' : World} {B : Nat} {ds : List Deferred} (h : Marks W B ds) (hk : ∀ D o, W.heap[D]? = some o → o.isCells = false → B ≤ D → W'.heap[D]? = some o) : Marks W' B ds := by
  obtain ⟨Ds, e, hp, hd⟩ := h
  exact ⟨Ds, e, hp, fun D hm => ⟨(hd D hm).1, hk D _ (hd D hm).2 rfl (hd D hm).1⟩⟩
theorem Marks.below {W W' : World} {B : Nat} {ds : List Deferred} (h : Marks W B ds) (hb : Below W.heap.size W W') : Marks W' B ds :=
  h.keep fun D _ hD _ _ => (hb.block D (lt_of_heap hD)).trans hD
theorem Marks.cons {W W' : World} {B D n : Nat} {ds : List Deferred} (h : Marks W B ds) (h' : Marks W' B ds) (hB : B ≤ D) (hn : W.heap.size ≤ n) (hD : n ≤ D) (hk : W'.heap[D]? = some (.deferred (some []))) : Marks W' B ({ target := .collected D, args := #[] } :: ds) := by
  obtain ⟨Ds, e, hp, hd⟩ := h
  obtain ⟨Ds', e', hp', hd'⟩ := h'
  have he : Ds = Ds' := by
    rw [e] at e'
    have hinj : ∀ (l l' : List Nat), l.map mark = l'.map mark → l = l' := by
      intro l
      induction l with
      | nil => intro l' h; cases l' with | nil => rfl | cons _ _ => simp at h
      | cons x l ih =>
        intro l' h
        cases l' with
        | nil => simp at h
        | cons y l' =>
          simp only [List.map_cons, List.cons.injEq] at h
          have h1 : x = y := by
            have := h.1
            simp [mark] at this
            exact this
          rw [h1, ih l' h.2]
    exact hinj _ _ e'
  subst he
  refine ⟨D :: Ds, by rw [e]; rfl, List.Pairwise.cons (fun x hx => ?_) hp, fun x hx => ?_⟩
  · have := lt_of_heap (hd x hx).2
    omega
  · rcases List.mem_cons.1 hx with e1 | e1
    · subst e1; exact ⟨hB, hk⟩
    · exact hd' x e1

theorem leaves_marks {P : Program} {F : Fence} {n : Nat} {fn : Func} {tmps : Array Value} {R : Ending → World → Prop} {B : Nat} : ∀ (Ds : List Nat) (W : World), Ds.Pairwise (· ≠ ·) → (∀ D, D ∈ Ds → B ≤ D ∧ W.heap[D]? = some (.deferred (some []))) →
    (∀ W', Below B W W' → ∃ v, (results fn tmps).run P W' = .ok v W' ∧ R (.returned v) W') → LeavesInM F n P fn tmps R (Ds.map mark) .returning W
  | [], W, _, _, h => by
    obtain ⟨v, h1, h2⟩ := h W (Below.refl _ _)
    exact ⟨v, h1, h2⟩
  | D :: Ds, W, hp, hd, h => by
    have hD := hd D List.mem_cons_self
    refine ⟨by simp, .inl ⟨D, _, rfl, run_takeDeferred hD.2, ?_⟩⟩
    refine leaves_marks (B := B) Ds _ (List.Pairwise.of_cons hp) ?_ ?_
    · intro x hx
      have h1 := hd x (List.mem_cons_of_mem _ hx)
      have h2 : D ≠ x := List.rel_of_pairwise_cons hp hx
      exact ⟨h1.1, (World.putObj_heap_other (Ne.symm h2)).trans h1.2⟩
    · intro W' hb
      refine h W' (Below.trans ?_ hb)
      exact (Below.refl B W).grown (grownBy_putObj' W D _) (by have := lt_of_heap hD.2; omega) (fun k e => by cases e; exact hD.1)

theorem ints_of_blk {W : World} {g : Nat} {zs : List Int} (h : Blk W g 3 (zs.map (Value.int .i64)).toArray) (hn : zs.length ≤ 65536) : IntsAt W W.heap.size (.slice (some ⟨g, 0, none⟩) zs.length zs.length) zs := by
  refine ⟨by simp, by omega, _, _, rfl, Nat.le_refl _, fun _ => ⟨g, 0, rfl, h.lt, fun j u hu => ?_⟩⟩
  rw [Nat.zero_add, h.cell j, List.getElem?_toArray]
  exact hu
theorem BSt.popped {n N : Nat} {w W W1 : World} {gc : Array Value} {nv : Value} {lt : Int → Int → Bool} {rs : List Bool} {vs : List Int} {v v1 : Value} {its its1 : List (Int × Int)} (h : BSt n w W gc nv N lt rs vs v its)
    (hq : QueueAt W1 (n + 1 + 1 + 1 + 1 + 1 + 1 + 1 + 1 + 1) (n + 1 + 1 + 1 + 1 + 1 + 1 + 1) (n + 1 + 1) v1 its1) (hf : Far (fun k => k = n + 1 + 1 + 1 + 1 + 1 + 1 + 1 ∨ some k = v.ownBlock) W W1) (ho : v1.ownBlock = v.ownBlock) : BSt n w W1 gc nv N lt rs vs v1 its1 := by
  have no : ∀ k, k < n + 9 → k ≠ n + 1 + 1 + 1 + 1 + 1 + 1 + 1 → ¬ (k = n + 1 + 1 + 1 + 1 + 1 + 1 + 1 ∨ some k = v.ownBlock) := by
    rintro k h1 h2 (e | e)
    · exact h2 e
    · have := h.own k e.symm; omega
  refine h.step ⟨h.se.hrb.far hf (no _ (by omega) (by omega)), h.se.hrr.far hf (no _ (by omega) (by omega)), h.se.hvb.far hf (no _ (by omega) (by omega)), h.se.hvr.far hf (no _ (by omega) (by omega)), h.se.hrs, h.se.hvs, hq, h.se.hlt.far (hf.block _ h.se.hlt.blt (no _ (by omega) (by omega)))⟩
    (hf.mono fun i _ hi => by rcases hi with e | e; exact .inl e; exact .inr (.inl e)) (.inl ho)
/-- a turn of a block that is no cells -/
theorem BSt.turn {n N : Nat} {w W W' : World} {gc : Array Value} {nv : Value} {lt : Int → Int → Bool} {rs : List Bool} {vs : List Int} {v : Value} {its : List (Int × Int)} (h : BSt n w W gc nv N lt rs vs v its) {row : Option Nat}
    (hg : W.grownBy W' row) (hr : ∀ r, row = some r → n + 9 ≤ r ∧ ∃ o : Obj, W.heap[r]? = some o ∧ o.isCells = false) : BSt n w W' gc nv N lt rs vs v its := by
  have t : ∀ (g : Nat) (cs : Array Value) (e : TypeId) (f : Nat × Nat), W.heap[g]? = some (Obj.cells cs e f) → W'.heap[g]? = some (Obj.cells cs e f) := by
    intro g cs e f hh
    refine (hg.block g (lt_of_heap hh) ?_).trans hh
    intro e1
    obtain ⟨_, o, ho, hc⟩ := hr g e1.symm
    rw [hh] at ho
    cases ho
    cases hc
  have hs := h.se
  refine ⟨⟨t _ _ _ _ hs.hrb, t _ _ _ _ hs.hrr, t _ _ _ _ hs.hvb, t _ _ _ _ hs.hvr, hs.hrs, hs.hvs, ⟨t _ _ _ _ hs.hq.1, ?_⟩, ?_⟩, t _ _ _ _ h.b0, t _ _ _ _ h.b1, t _ _ _ _ h.b8, ?_, Nat.le_trans h.siz hg.size, h.own⟩
  · obtain ⟨h1, h2⟩ := hs.hq.2
    refine ⟨h1, ?_⟩
    rcases h2 with h2 | ⟨g, cap, cur, e, hb, hh, r⟩
    · exact .inl h2
    · exact .inr ⟨g, cap, cur, e, hb, t _ _ _ _ hh, r⟩
  · rcases hs.hlt with ⟨h1, e⟩ | ⟨h1, e⟩
    · exact .inl ⟨t _ _ _ _ h1, e⟩
    · exact .inr ⟨t _ _ _ _ h1, e⟩
  · exact h.bel.grown hg (by have := h.siz; omega) (fun k e => by have := (hr k e).1; omega)
theorem Blk.turn {W W' : World} {g : Nat} {t : TypeId} {cs : Array Value} (h : Blk W g t cs) {row : Option Nat} (hg : W.grownBy W' row) (hr : ∀ r, row = some r → ∃ o : Obj, W.heap[r]? = some o ∧ o.isCells = false) : Blk W' g t cs := by
  refine (hg.block g h.lt ?_).trans h
  intro e1
  obtain ⟨o, ho, hc⟩ := hr g e1.symm
  unfold Blk at h
  rw [h] at ho
  cases ho
  cases hc
/-- what a round of the inner loop keeps -/
structure InSt (n : Nat) (w W : World) (gc : Array Value) (nv : Value) (N : Nat) (lt : Int → Int → Bool) (nb : Nat → List Nat) (S : List Nat) (fst : Nat → Int) (nx : Int → Nat → Int) (Acc : Int → Prop) (m : Int → Nat) (M K : Nat) (c : Nat) (x0 : Int) (Ds : List Nat) (B0 B1 : Nat) (pre : List Nat) : Prop where
  ex : ∃ rs vs v its, BSt n w W gc nv N lt rs vs v its ∧ SInv nb S fst nx lt Acc N S (fun d u => d = c ∧ u = x0) rs vs its ∧ 2 * pot m M N rs vs + its.length ≤ K ∧ (∀ d, d ∈ pre → Done lt rs vs d (nx x0 d)) ∧ (∀ k, v.ownBlock = some k → k < B0 ∨ B1 ≤ k)
  mks : ∀ D, D ∈ Ds → W.heap[D]? = some (.deferred (some []))
  bv : Blk W B0 136 #[.int .i64 c, .int .i64 x0]
  sz : B1 ≤ W.heap.size
theorem InSt.own {n N : Nat} {w : World} {gc : Array Value} {nv : Value} {lt : Int → Int → Bool} {nb : Nat → List Nat} {S : List Nat} {fst : Nat → Int} {nx : Int → Nat → Int} {Acc : Int → Prop} {m : Int → Nat} {M K c : Nat} {x0 : Int} {Ds : List Nat} {B0 B1 : Nat} {α : Type} (f : α → Nat)
    (hB : n + 9 ≤ B0) (hBB : B0 < B1) (hD : ∀ D, D ∈ Ds → D < B0) : OwnFrom B1 (fun (pre : List α) W => InSt n w W gc nv N lt nb S fst nx Acc m M K c x0 Ds B0 B1 (pre.map f)) := by
  intro s A C row h hg hr
  obtain ⟨⟨rs, vs, v, its, h1, h2, h3, h4, h5⟩, hm, hb, hs⟩ := h
  refine ⟨⟨rs, vs, v, its, h1.turn hg (fun r e => ⟨by have := (hr r e).1; omega, (hr r e).2⟩), h2, h3, h4, h5⟩, ?_, hb.turn hg (fun r e => (hr r e).2), Nat.le_trans hs hg.size⟩
  intro D hD'
  refine (hg.block D (lt_of_heap (hm D hD')) ?_).trans (hm D hD')
  intro e
  have := (hr D e.symm).1
  have := hD D hD'
  omega
/-- the marks stay where the queue and the rows turn: those are cells -/
theorem Marks.far {W W' : World} {B n N : Nat} {w : World} {gc : Array Value} {nv : Value} {lt : Int → Int → Bool} {rs : List Bool} {vs : List Int} {v : Value} {its : List (Int × Int)} {ds : List Deferred} (h : Marks W B ds) (hs : BSt n w W gc nv N lt rs vs v its) (hB : n + 9 ≤ B)
    (hf : Far (fun k => k = n + 1 + 1 + 1 + 1 + 1 + 1 + 1 ∨ some k = v.ownBlock ∨ k = n + 1 + 1 + 1 + 1 + 1 ∨ k = n + 1 + 1 + 1) W W') : Marks W' B ds := by
  refine h.keep fun D o hD ho hBD => ?_
  refine (hf.block D (lt_of_heap hD) ?_).trans hD
  rintro (e | e | e | e)
  · omega
  · rcases hs.se.hq.2.2 with ⟨e1, _⟩ | ⟨g, cap, cur, e1, _, hh, _⟩
    · rw [e1] at e; cases e
    · rw [e1] at e
      have e2 : D = g := Option.some.inj e
      subst e2
      rw [hh] at hD
      cases hD
      cases ho
  · omega
  · omega

theorem sub_listQ {Q : Nat → Prop} : ∀ (l : List Int), (∀ d, d ∈ l → 0 ≤ d ∧ Q d.toNat) → ∃ L : List { d : Nat // Q d }, L.map (fun a => ((a.1 : Nat) : Int)) = l
  | [], _ => ⟨[], rfl⟩
  | d :: l, h => by
    obtain ⟨L, hL⟩ := sub_listQ (Q := Q) l (fun x hx => h x (List.mem_cons_of_mem _ hx))
    have hd := h d List.mem_cons_self
    exact ⟨⟨d.toNat, hd.2⟩ :: L, by simp [hL]; omega⟩

/-- one round of the inner loop: next has been called, and reach -/
theorem reach_round {n N : Nat} {w W Wa Wb : World} {gc : Array Value} {nv : Value} {lt : Int → Int → Bool} {nb : Nat → List Nat} {S : List Nat} {fst : Nat → Int} {nx : Int → Nat → Int} {Acc : Int → Prop} {m : Int → Nat} {M K c : Nat} {x0 : Int} {Ds : List Nat} {B0 B1 : Nat} {pre : List Nat}
    {rs : List Bool} {vs : List Int} {v : Value} {its : List (Int × Int)} {rs' : List Bool} {vs' : List Int} {v' : Value} {its' : List (Int × Int)} {d bx bg bc bY : Nat}
    (h1 : BSt n w W gc nv N lt rs vs v its) (h4 : ∀ d, d ∈ pre → Done lt rs vs d (nx x0 d)) (h5 : ∀ k, v.ownBlock = some k → k < B0 ∨ B1 ≤ k)
    (hm : ∀ D, D ∈ Ds → n + 9 ≤ D ∧ W.heap[D]? = some (.deferred (some []))) (hbv : Blk W B0 136 #[.int .i64 c, .int .i64 x0]) (hsz : B1 ≤ W.heap.size) (hn : n + 9 ≤ B0) (hBB : B0 < B1)
    (hab : Below W.heap.size W Wa) (hr : Reached n w Wa Wb gc nv N lt nb S fst nx Acc m M K S (fun d u => d = c ∧ u = x0) d (nx x0 d) rs vs v rs' vs' v' its')
    (x1 : B0 ≤ bx ∧ bx < B1) (x2 : B0 ≤ bg ∧ bg < B1) (x3 : B0 ≤ bc ∧ bc < B1) (x4 : B0 ≤ bY ∧ bY < B1) :
    KeepsFrom B1 W Wb ∧ NbKp bx bg bc bY W Wb ∧ InSt n w Wb gc nv N lt nb S fst nx Acc m M K c x0 Ds B0 B1 (pre ++ [d]) := by
  have ha := h1.below hab
  have hnc : ∀ (k : Nat) (o : Obj), W.heap[k]? = some o → o.isCells = false → Wb.heap[k]? = some o := by
    intro k o hk ho
    have hka : Wa.heap[k]? = some o := (hab.block k (lt_of_heap hk)).trans hk
    have cl : ∀ {g t cs}, Blk Wa g t cs → k ≠ g := by
      rintro g t cs hb rfl
      unfold Blk at hb
      rw [hka] at hb
      cases hb
      cases ho
    refine (hr.far.block k (lt_of_heap hka) ?_).trans hka
    rintro (e | e | e | e)
    · exact cl ha.se.hq.1 e
    · rcases ha.se.hq.2.2 with ⟨e1, _⟩ | ⟨g1, cap1, cur1, e1, _, hh, _⟩
      · rw [e1] at e; cases e
      · rw [e1] at e
        have e2 : k = g1 := Option.some.inj e
        subst e2
        rw [hka] at hh
        cases hh
        cases ho
    · exact cl ha.se.hrr e
    · exact cl ha.se.hvr e
  have hbox : ∀ k, B0 ≤ k → k < B1 → Wb.heap[k]? = W.heap[k]? := by
    intro k k1 k2
    refine (hr.far.block k (by have := hab.size; omega) ?_).trans (hab.block k (by omega))
    rintro (e | e | e | e)
    · omega
    · rcases h5 k e.symm with h | h <;> omega
    · omega
    · omega
  refine ⟨⟨Nat.le_trans hab.size hr.far.size, fun k o _ hk ho => hnc k o hk ho⟩, ⟨hbox _ x1.1 x1.2, hbox _ x2.1 x2.2, hbox _ x3.1 x3.2, hbox _ x4.1 x4.2⟩, ⟨rs', vs', v', its', hr.bst, hr.inv, hr.bd, ?_, ?_⟩, ?_, ?_, ?_⟩
  · intro e he
    rcases List.mem_append.1 he with h | h
    · exact hr.kp e _ (h4 e h)
    · rw [List.mem_singleton] at h
      subst h
      exact hr.don
  · intro k hk
    rcases hr.own with h | h
    · rw [h] at hk; exact h5 k hk
    · have := h k hk
      have := hab.size
      exact .inr (by omega)
  · intro D hD
    exact hnc D _ (hm D hD).2 rfl
  · exact (hbox B0 (Nat.le_refl _) hBB).trans hbv
  · have := hab.size
    have := hr.far.size
    omega
theorem map_toNat' {Q : Nat → Prop} {L : List { d : Nat // Q d }} {l : List Int} (h : L.map (fun a => ((a.1 : Nat) : Int)) = l) : l.map Int.toNat = L.map (fun a => a.1) := by
  subst h
  rw [List.map_map]
  rfl
end Go.Proofs.YthcenmocnphnmaaGreatDoor
/-
  A region that draws its order, in a round of a range over a function, goes as outside of rounds, if nothing is deferred in it.
-/
namespace Go.Proofs.YthcenmocnphnmaaGreatDoor
open Go.RowKit Go.Shelf

theorem uponIn_round' (l : Nat) {F : Fence} {n : Nat} {P : Program} {o : Oper} {a : Act} {next : Act → World → Prop} {Q : Exit → Act → World → Prop} {r : Result Next} (h : o.uponIn F n P a next Q r) : o.uponIn (F.inRound l) n P a next Q r := by
  cases r with
  | ok x w' => cases x <;> exact h
  | halt x w' => cases x <;> exact h
theorem wpAnyIn_round {l n : Nat} {F : Fence} {P : Program} {md : Region.Mode} {ops : Array Oper} {Q : Exit → Act → World → Prop} (hF : F.round = none) (hd : ∀ (i : Nat) (o : Oper), ops[i]? = some o → ∀ c, o.op ≠ .defer c) :
    ∀ (fuel : Nat) (listed : Array Bool) (a : Act) (w : World), wpAnyIn F n P md ops Q fuel listed a w → wpAnyIn (F.inRound l) n P md ops Q fuel listed a w
  | 0, _, _, _, h => h
  | fuel + 1, listed, a, w, h => by
    refine ⟨h.1, fun i hi => ?_⟩
    have h1 := wpOpIn_mono (fun a w => wpAnyIn_round (l := l) hF hd fuel (listed.setIfInBounds i true) a w) (h.2 i hi)
    unfold wpOpIn at h1 ⊢
    split
    · rename_i e; simpa [e] using h1
    · rename_i o ho
      simp only [ho] at h1
      split
      · rename_i hw
        simp only [hw, if_true] at h1
        unfold Oper.wpIn at h1 ⊢
        rw [hF, Oper.semAt_none] at h1
        rw [Fence.inRound_round, Oper.semAt_some l _ _ (hd i o ho)]
        exact ⟨h1.1, uponIn_round' l h1.2⟩
      · rename_i hw
        simp only [hw] at h1
        exact h1
def noDefer (ops : Array Oper) : Bool := ops.all fun o => match o.op with | .defer _ => false | _ => true
theorem noDefer_spec {ops : Array Oper} (h : noDefer ops = true) (i : Nat) (o : Oper) (ho : ops[i]? = some o) (c : Call) : o.op ≠ .defer c := by
  intro e
  have h1 := Array.all_eq_true_iff_forall_mem.1 h o (Array.mem_of_getElem? ho)
  rw [e] at h1
  cases h1
theorem wpIn_region_round {l n : Nat} {P : Program} {id : Nat} {ops : Array Oper} {Q : Exit → Act → World → Prop} {a : Act} {w : World} (hm : P.follows .mixedOrders = true) (hd : noDefer ops = true)
    (h : wpAnyIn Fence.wide n P .any ops Q ops.size (Array.replicate ops.size false) a w.drew) : (Code.region id ops true).wpIn (Fence.wide.inRound l) n P Q a w :=
  wpIn_region_any hm (wpAnyIn_round rfl (noDefer_spec hd) _ _ _ _ h)
def firstRange : Code → Option Code
  | .rangeFunc _ _ _ b => some b
  | .seq a b => match firstRange a with
    | some c => some c
    | none => firstRange b
  | .block _ c => firstRange c
  | .scope c => firstRange c
  | .loop c => firstRange c
  | .cond _ a b => match firstRange a with
    | some c => some c
    | none => firstRange b
  | _ => none
noncomputable def bestBody : Code := ((Tryz.f87.body.bind firstRange).getD .skip)

end Go.Proofs.YthcenmocnphnmaaGreatDoor
