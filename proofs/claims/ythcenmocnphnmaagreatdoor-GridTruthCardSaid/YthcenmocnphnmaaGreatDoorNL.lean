/-
  A queue of cells: a row that is eaten from the front and appended to.
-/
import Derived.Test.YthcenmocnphnmaaGreatDoorNI
import Derived.ArgAppend
import Derived.Maps.AppendAt
import Derived.Test.YthcenmocnphnmaaGreatDoorNH
import Derived.Deep.LoopGhost
import Derived.Test.YthcenmocnphnmaaGreatDoorMM
set_option linter.unusedSimpArgs false
set_option linter.unusedVariables false
namespace Go.Proofs.YthcenmocnphnmaaGreatDoor
open Go.RowKit Go.Shelf

def QRow (w : World) (B : Nat) (v : Value) (xs : List Int) : Prop :=
  (v = .slice none 0 0 ∧ xs = []) ∨ ∃ g off cap cur, v = .slice (some ⟨g, off, none⟩) xs.length cap ∧ B ≤ g ∧ Blk w g 3 cur ∧ xs.length ≤ cap ∧ off + cap ≤ cur.size ∧ ∀ j (hj : j < xs.length), cur[off + j]? = some (.int .i64 xs[j])
section
variable {w w' : World} {B : Nat} {v : Value} {xs : List Int}
theorem QRow.keep (h : QRow w B v xs) (hb : ∀ g, v.ownBlock = some g → w'.heap[g]? = w.heap[g]?) : QRow w' B v xs := by
  rcases h with h | ⟨g, off, cap, cur, rfl, h1, h2, h3, h4, h5⟩
  · exact .inl h
  · refine .inr ⟨g, off, cap, cur, rfl, h1, ?_, h3, h4, h5⟩
    have := hb g rfl
    unfold Blk at *
    rw [this]
    exact h2
theorem QRow.lt (h : QRow w B v xs) : ∀ k, v.ownBlock = some k → B ≤ k ∧ k < w.heap.size := by
  intro k hk
  rcases h with ⟨rfl, _⟩ | ⟨g, off, cap, cur, rfl, h1, h2, _⟩
  · simp [Value.ownBlock] at hk
  · simp [Value.ownBlock] at hk
    subst hk
    exact ⟨h1, h2.lt⟩
theorem QRow.below {C : Nat} (h : QRow w B v xs) (hb : Below C w w') (hC : w.heap.size ≤ C) : QRow w' B v xs := h.keep fun g hg => hb.block g (by have := (h.lt g hg).2; omega)
theorem QRow.of_own {ys : List Value} (h : w.ownsRow B 3 1 v xs.length ys) (he : ys = xs.map (Value.int .i64)) : QRow w B v xs := by
  subst he
  rcases h.2 with ⟨e1, e2⟩ | ⟨g, cap, cur, rfl, h1, h2, h3, _, h5, h6⟩
  · exact .inl ⟨e1, List.eq_nil_of_length_eq_zero e2⟩
  · refine .inr ⟨g, 0, cap, cur, rfl, h1, h2, h3, by omega, fun j hj => ?_⟩
    have : (cur.toList.take (xs.length * 1))[j]? = (xs.map (Value.int .i64))[j]? := by rw [h6]
    rw [List.getElem?_take, if_pos (by omega), List.getElem?_map, List.getElem?_eq_getElem hj] at this
    rw [Nat.zero_add]
    simpa using this
/-- one cell more -/
theorem run_append_q (ty : TypeId) (h : QRow w B v xs) (x : Int) (a : Addr) (hn : ∀ j u, [Value.int .i64 x][j]? = some u → w.cell? (a.add j) = some u) (hl : xs.length ≤ 100000) (hB : B ≤ w.heap.size) :
    ∃ v' w', (Builtin.append_ #[26, 26] ty #[v, .slice (some a) 1 1]).run Tryz.prog w = .ok v' w' ∧ QRow w' B v' (xs ++ [x]) ∧ w.grownBy w' v.ownBlock ∧ (v'.ownBlock = v.ownBlock ∨ v'.ownBlock = some w.heap.size) := by
  obtain ⟨i0, hi0, hz0, hz1, hz2⟩ := info_parts int_info
  rcases h with ⟨rfl, rfl⟩ | ⟨g, off, cap, cur, rfl, h1, h2, h3, h4, h5⟩
  · obtain ⟨v', w', hr, ho, hg, _, hat⟩ := run_append_own_at (P := Tryz.prog) w B 26 ty 3 i0 (.int .i64 0) 1 8 Tryz.underlying26 hi0 hz0 hz1 hz2 rfl (by decide) (.slice none 0 0) 0 [] (World.ownsRow_nil _ _ _ _) a 1 1 [.int .i64 x] rfl hn (by simp [Value.oneCell']) (by decide) (by decide) hB
    exact ⟨v', w', hr, QRow.of_own (xs := [x]) ho rfl, hg, hat⟩
  · by_cases hroom : xs.length + 1 ≤ cap
    · have hr := run_append_room_cells (P := Tryz.prog) w 26 ty 3 i0 Tryz.underlying26 hi0 g off xs.length cap a 1 1 [.int .i64 x] (by rw [hz1]; rfl) hn (by simp [Value.oneCell']) hroom
        (fun j hj => by
          have hj : j = 0 := by simpa using hj
          subst hj
          rw [hz1, h2.cell, Array.getElem?_eq_getElem (by omega)]
          rfl) (fun j _ => h2.frozen _)
      rw [hz1] at hr
      refine ⟨_, _, hr, .inr ⟨g, off, cap, _, by rw [List.length_append]; rfl, h1, h2.set_ _ _, by rw [List.length_append]; exact hroom, by rw [Array.size_setIfInBounds]; exact h4, fun j hj => ?_⟩, ?_, .inl rfl⟩
      · rw [List.length_append] at hj
        rw [Array.getElem?_setIfInBounds]
        by_cases e : j = xs.length
        · subst e
          rw [if_pos (by omega), if_pos (by simp only [List.length_singleton] at hj; omega)]
          simp
        · simp only [List.length_singleton] at hj
          rw [if_neg (by omega), h5 j (by omega), List.getElem_append_left (by omega)]
      · exact ⟨rfl, rfl, rfl, by simp [World.setCells], fun k hk hne => Below.heap_setCell w _ _ k (fun e => hne (by simp [Value.ownBlock, e]))⟩
    · have holds : ∀ j u, (xs.map (Value.int .i64))[j]? = some u → w.cell? ((⟨g, off, none⟩ : Addr).add j) = some u := fun j u hu => by
        have hadd : (⟨g, off, none⟩ : Addr).add j = ⟨g, off + j, none⟩ := by unfold Addr.add; split <;> simp_all
        rw [hadd, h2.cell]
        rw [List.getElem?_map] at hu
        by_cases hj : j < xs.length
        · rw [List.getElem?_eq_getElem hj] at hu
          rw [h5 j hj, ← hu]
          rfl
        · rw [List.getElem?_eq_none (by omega)] at hu
          cases hu
      have hr := run_append_grow (P := Tryz.prog) w 26 ty 3 i0 (.int .i64 0) Tryz.underlying26 hi0 hz0 ⟨g, off, none⟩ xs.length cap (xs.map (Value.int .i64)) (by rw [hz1, List.length_map, Nat.mul_one]) holds a 1 1 [.int .i64 x] (by rw [hz1]; rfl) hn (by omega) (by omega) (growslice_fits (by omega) (by rw [hz2]; omega))
      have hge := grownCap_ge w (xs.length + 1) cap 3
      refine ⟨_, _, hr, .inr ⟨w.heap.size, 0, _, _, by rw [List.length_append]; rfl, hB, heap_alloc_new w.drew _, by rw [List.length_append]; exact hge, ?_, fun j hj => ?_⟩, ⟨rfl, rfl, rfl, by simp, fun k hk _ => heap_alloc_old w.drew _ (by exact hk)⟩, .inr rfl⟩
      · have e : (Value.int IntKind.i64 0).cells.size = 1 := rfl
        simp only [Array.size_append, List.size_toArray, size_zeroCells, List.length_map, List.length_singleton, e]
        omega
      · rw [List.length_append, List.length_singleton] at hj
        rw [Nat.zero_add]
        have : ((xs.map (Value.int .i64)).toArray ++ [Value.int IntKind.i64 x].toArray) = ((xs ++ [x]).map (Value.int .i64)).toArray := by simp
        rw [this, Array.getElem?_append_left (by simp; omega), List.getElem?_toArray, List.getElem?_map, List.getElem?_eq_getElem (by simp; omega)]
        rfl
end
theorem wpList_append_q {ops : Array Oper} {rest : List Oper} {o : Oper} {a : Act} {w : World} {B : Nat} {v : Value} {xs : List Int} {Q : Exit → Act → World → Prop} (hgd : o.guard = none) (s y : Operand)
    (ho : o.op = .call { callee := .builtin .append, args := #[s, y], argTypes := #[26, 26] }) (hs : a.eval s = v) (hq : QRow w B v xs) (x : Int) (ad : Addr) (hx : a.eval y = .slice (some ad) 1 1)
    (hn : ∀ j u, [Value.int .i64 x][j]? = some u → w.cell? (ad.add j) = some u) (hl : xs.length ≤ 100000) (hB : B ≤ w.heap.size)
    (h : ∀ v' w', QRow w' B v' (xs ++ [x]) → w.grownBy w' v.ownBlock → (v'.ownBlock = v.ownBlock ∨ v'.ownBlock = some w.heap.size) → wpList Tryz.prog ops Q rest (a.put o.dst v') w') : wpList Tryz.prog ops Q (o :: rest) a w :=
  wpList_plain hgd fun _ hK => by
    obtain ⟨v', w', hr, h2, h3, h4⟩ := run_append_q o.type hq x ad hn hl hB
    unfold Oper.wp execOp
    simp only [ho, resolve, invoke, builtin, Sem.run_bind, Sem.run_pure, Result.andThen_ok, List.map_toArray, List.map_cons, List.map_nil, hs, hx, hr]
    exact hK _ _ (h v' w' h2 h3 h4)
end Go.Proofs.YthcenmocnphnmaaGreatDoor
/-
  Without any program: water that goes on from cell to cell.
-/
namespace Go.Proofs.YthcenmocnphnmaaGreatDoor

/-- a way over cells below the level -/
def WetAt (g : G) (sts : List Nat) (lv : Int) (c : Nat) : Prop := ∃ v, Way (fun c => (nearL g c).map Int.toNat) sts (loF g.ss) (fun v d => max v (loF g.ss d)) c v ∧ v < lv
def DoneW (g : G) (lv : Int) (out : List Bool) (c : Nat) : Prop := ∀ d, d ∈ (nearL g c).map Int.toNat → loF g.ss d < lv → out.getD d false = true
structure WetSt (g : G) (sts : List Nat) (lv : Int) (Sd : List Nat) (Pd : Nat → Prop) (out : List Bool) (nx : List Int) : Prop where
  lenW : out.length = g.ss.length
  wetW : ∀ c, out.getD c false = true → c < g.ss.length ∧ WetAt g sts lv c
  stsW : ∀ s ∈ Sd, loF g.ss s < lv → out.getD s false = true
  nxW : ∀ z ∈ nx, ∃ c : Nat, z = (c : Int) ∧ c < g.ss.length ∧ out.getD c false = true
  clsW : ∀ c, out.getD c false = true → (c : Int) ∈ nx ∨ DoneW g lv out c ∨ Pd c
def falses (n : Nat) (out : List Bool) : Nat := psum (fun c => if out.getD c false then 0 else 1) n
section
variable {g : G} {sts Sd : List Nat} {lv : Int} {Pd : Nat → Prop} {out : List Bool} {nx : List Int}
theorem getD_setB (out : List Bool) (d c : Nat) (hd : d < out.length) : (out.set d true).getD c false = if d = c then true else out.getD c false := by
  rw [List.getD_eq_getElem?_getD, List.getD_eq_getElem?_getD, List.getElem?_set]
  by_cases h : d = c
  · subst h
    rw [if_pos rfl, if_pos rfl, if_pos hd]
    rfl
  · rw [if_neg h, if_neg h]
theorem falses_set {d : Nat} (n : Nat) (hd : d < out.length) (hn : d < n) (h : out.getD d false = false) : falses n (out.set d true) + 1 ≤ falses n out := by
  unfold falses
  refine psum_lt (c := d) (fun i _ => ?_) hn ?_
  · rw [getD_setB out d i hd]
    by_cases e : d = i
    · rw [if_pos e]; simp
    · rw [if_neg e]; exact Nat.le_refl _
  · rw [getD_setB out d d hd, if_pos rfl, h]
    simp
theorem falses_le (n : Nat) (out : List Bool) : falses n out ≤ n := by
  have := psum_le (f := fun c => if out.getD c false then 0 else 1) (g := fun _ => 1) (n := n) (fun i _ => by split <;> omega)
  rw [psum_const] at this
  unfold falses
  omega
theorem WetSt.init (g : G) (sts : List Nat) (lv : Int) : WetSt g sts lv [] (fun _ => False) (List.replicate g.ss.length false) [] := by
  have hf : ∀ c, (List.replicate g.ss.length false).getD c false = false := fun c => by
    rw [List.getD_eq_getElem?_getD, List.getElem?_replicate]
    split <;> rfl
  exact ⟨by simp, fun c h => (by rw [hf] at h; cases h), (fun s h => by cases h), (fun z h => by cases h), fun c h => (by rw [hf] at h; cases h)⟩
theorem WetSt.push (h : WetSt g sts lv Sd Pd out nx) {d : Nat} (hd : d < g.ss.length) (hw : WetAt g sts lv d) : WetSt g sts lv Sd Pd (out.set d true) (nx ++ [(d : Int)]) := by
  have hdo : d < out.length := by rw [h.lenW]; exact hd
  have hm : ∀ c, out.getD c false = true → (out.set d true).getD c false = true := fun c hc => by
    rw [getD_setB out d c hdo]
    split
    · rfl
    · exact hc
  refine ⟨by rw [List.length_set]; exact h.lenW, fun c hc => ?_, fun s hs hl => hm s (h.stsW s hs hl), fun z hz => ?_, fun c hc => ?_⟩
  · rw [getD_setB out d c hdo] at hc
    by_cases e : d = c
    · subst e; exact ⟨hd, hw⟩
    · rw [if_neg e] at hc; exact h.wetW c hc
  · rcases List.mem_append.1 hz with hz | hz
    · obtain ⟨c, e, hc, ho⟩ := h.nxW z hz
      exact ⟨c, e, hc, hm c ho⟩
    · rw [List.mem_singleton] at hz
      exact ⟨d, hz, hd, by rw [getD_setB out d d hdo, if_pos rfl]⟩
  · rw [getD_setB out d c hdo] at hc
    by_cases e : d = c
    · subst e
      exact .inl (by simp)
    · rw [if_neg e] at hc
      rcases h.clsW c hc with h1 | h1 | h1
      · exact .inl (List.mem_append_left _ h1)
      · exact .inr (.inl fun e he hl => hm e (h1 e he hl))
      · exact .inr (.inr h1)
theorem WetSt.start (h : WetSt g sts lv Sd Pd out nx) {s : Nat} (hs : loF g.ss s < lv → out.getD s false = true) : WetSt g sts lv (Sd ++ [s]) Pd out nx :=
  ⟨h.lenW, h.wetW, fun t ht hl => by
    rcases List.mem_append.1 ht with ht | ht
    · exact h.stsW t ht hl
    · rw [List.mem_singleton] at ht
      subst ht
      exact hs hl, h.nxW, h.clsW⟩
theorem WetSt.pop {c : Nat} (h : WetSt g sts lv Sd (fun _ => False) out ((c : Int) :: nx)) : WetSt g sts lv Sd (fun d => d = c) out nx ∧ WetAt g sts lv c ∧ c < g.ss.length := by
  obtain ⟨d, e, _, ho⟩ := h.nxW (c : Int) (by simp)
  obtain rfl : c = d := by omega
  refine ⟨⟨h.lenW, h.wetW, h.stsW, fun z hz => h.nxW z (by simp [hz]), fun e he => ?_⟩, (h.wetW c ho).2, (h.wetW c ho).1⟩
  rcases h.clsW e he with h1 | h1 | h1
  · rcases List.mem_cons.1 h1 with h1 | h1
    · exact .inr (.inr (by omega))
    · exact .inl h1
  · exact .inr (.inl h1)
  · exact h1.elim
theorem WetSt.popped {c : Nat} (h : WetSt g sts lv Sd (fun d => d = c) out nx) (hd : DoneW g lv out c) : WetSt g sts lv Sd (fun _ => False) out nx :=
  ⟨h.lenW, h.wetW, h.stsW, h.nxW, fun e he => by
    rcases h.clsW e he with h1 | h1 | h1
    · exact .inl h1
    · exact .inr (.inl h1)
    · subst h1; exact .inr (.inl hd)⟩
theorem WetSt.final (h : WetSt g sts lv sts (fun _ => False) out []) (c : Nat) : out.getD c false = true ↔ WetAt g sts lv c := by
  refine ⟨fun hc => (h.wetW c hc).2, ?_⟩
  rintro ⟨v, hw, hv⟩
  revert hv
  induction hw with
  | start hs => exact fun hv => h.stsW _ hs hv
  | step hw hd ih =>
    intro hv
    have h1 : _ < lv := Int.lt_of_le_of_lt (Int.le_max_left _ _) hv
    have h2 : _ < lv := Int.lt_of_le_of_lt (Int.le_max_right _ _) hv
    rcases h.clsW _ (ih h1) with h3 | h3 | h3
    · cases h3
    · exact h3 _ hd h2
    · exact h3.elim
theorem wet_start {s : Nat} (hs : s ∈ sts) (hl : loF g.ss s < lv) : WetAt g sts lv s := ⟨_, .start hs, hl⟩
theorem wet_step {c d : Nat} (hc : WetAt g sts lv c) (hd : d ∈ (nearL g c).map Int.toNat) (hl : loF g.ss d < lv) : WetAt g sts lv d := by
  obtain ⟨v, hw, hv⟩ := hc
  exact ⟨_, .step hw hd, Int.max_lt.2 ⟨hv, hl⟩⟩
end
end Go.Proofs.YthcenmocnphnmaaGreatDoor
/-
  The law's wet.
-/
namespace Go.Proofs.YthcenmocnphnmaaGreatDoor
open Go.RowKit Go.Shelf

structure WetM (B : Nat) (w0 w : World) (n : Nat) (out : List Bool) (nx : List Int) (v : Value) : Prop where
  own : w.ownsRow B 4 1 (.slice (some ⟨B, 0, none⟩) n n) n (out.map Value.bool)
  q : QRow w B v nx
  bel : Below B w0 w
section
variable {B n : Nat} {w0 w w' : World} {out : List Bool} {nx : List Int} {v : Value}
theorem WetM.ne (h : WetM B w0 w n out nx v) : v.ownBlock = none ∨ v.ownBlock ≠ some B := by
  rcases h.q with ⟨rfl, _⟩ | ⟨g, off, cap, cur, rfl, _, hb, _⟩
  · exact .inl rfl
  · right
    intro e
    have e : g = B := Option.some.inj e
    subst e
    rcases h.own.2 with ⟨e, _⟩ | ⟨g', cap', cur', e, _, hh, _⟩
    · cases e
    · injection e with e
      injection e with e
      injection e with e
      subst e
      unfold Blk at hb
      rw [hb] at hh
      injection hh with hh
      injection hh with _ ht
      exact absurd ht (by decide)
theorem WetM.ne' (h : WetM B w0 w n out nx v) : (Value.slice (some ⟨B, 0, none⟩) n n).ownBlock = none ∨ (Value.slice (some ⟨B, 0, none⟩) n n).ownBlock ≠ v.ownBlock := by
  right
  rcases h.ne with e | e
  · rw [e]; simp [Value.ownBlock]
  · exact fun k => e k.symm
theorem WetM.le (h : WetM B w0 w n out nx v) : B < w.heap.size := (h.own.lt B rfl).2
theorem WetM.below (h : WetM B w0 w n out nx v) (hb : Below w.heap.size w w') : WetM B w0 w' n out nx v :=
  ⟨own_below h.own hb (Nat.le_refl _), h.q.below hb (Nat.le_refl _), h.bel.trans (hb.mono (Nat.le_of_lt h.le))⟩
theorem WetM.set (h : WetM B w0 w n out nx v) (d : Nat) : WetM B w0 (w.setCell ⟨B, d, none⟩ (.bool true)) n (out.set d true) nx v :=
  ⟨own_bools_set h.own d true, h.q.keep fun g hg => Below.heap_setCell w _ _ g (by
    rintro rfl
    rcases h.ne with e | e
    · rw [e] at hg; cases hg
    · exact e hg), h.bel.setCell (by exact Nat.le_refl _) _⟩
theorem WetM.push {w8 : World} {v1 : Value} (h : WetM B w0 w n out nx v) {nx' : List Int} (hq : QRow w8 B v1 nx') (hg : w.grownBy w8 v.ownBlock) : WetM B w0 w8 n out nx' v1 :=
  ⟨h.own.kept hg h.ne', hq, h.bel.grown hg (Nat.le_of_lt h.le) (fun k e => (h.q.lt k e).1)⟩
theorem QRow.pop1 {g off cap : Nat} {xs : List Int} (h : QRow w B (.slice (some ⟨g, off, none⟩) xs.length cap) xs) (hp : 0 < xs.length) (_hc : cap ≠ 1) : QRow w B (.slice (some ⟨g, off + 1, none⟩) (xs.length - 1) (cap - 1)) xs.tail := by
  rcases h with ⟨e, _⟩ | ⟨g', off', cap', cur, e, h1, h2, h3, h4, h5⟩
  · cases e
  · injection e with e1 e2 e3
    injection e1 with e1
    injection e1 with e1 e4
    subst e1 e3 e4
    refine .inr ⟨g, off + 1, cap - 1, cur, by rw [List.length_tail], h1, h2, by rw [List.length_tail]; omega, by omega, fun j hj => ?_⟩
    rw [List.length_tail] at hj
    rw [List.getElem_tail, ← h5 (j + 1) (by omega)]
    congr 1
    omega
theorem QRow.pop0 {g off : Nat} {xs : List Int} (h : QRow w B (.slice (some ⟨g, off, none⟩) xs.length 1) xs) (hp : 0 < xs.length) : QRow w B (.slice (some ⟨g, off, none⟩) 0 0) xs.tail := by
  rcases h with ⟨e, _⟩ | ⟨g', off', cap', cur, e, h1, h2, h3, h4, h5⟩
  · cases e
  · injection e with e1 e2 e3
    injection e1 with e1
    injection e1 with e1 e4
    subst e1 e3 e4
    have ht : xs.tail.length = 0 := by rw [List.length_tail]; omega
    have ht' := List.eq_nil_of_length_eq_zero ht
    rw [ht']
    exact .inr ⟨g, off, 0, cur, rfl, h1, h2, Nat.zero_le _, by omega, fun j hj => absurd hj (by simp)⟩
theorem QRow.head {g off cap : Nat} {xs : List Int} (h : QRow w B (.slice (some ⟨g, off, none⟩) xs.length cap) xs) (hp : 0 < xs.length) : w.cell? ⟨g, off, none⟩ = some (.int .i64 xs[0]) ∧ xs.length ≤ cap := by
  rcases h with ⟨e, _⟩ | ⟨g', off', cap', cur, e, h1, h2, h3, h4, h5⟩
  · cases e
  · injection e with e1 e2 e3
    injection e1 with e1
    injection e1 with e1 e4
    subst e1 e3 e4
    exact ⟨by rw [h2.cell]; exact h5 0 hp, h3⟩
theorem QRow.shape {xs : List Int} (h : QRow w B v xs) (hp : 0 < xs.length) : ∃ g off cap, v = .slice (some ⟨g, off, none⟩) xs.length cap ∧ g < w.heap.size := by
  rcases h with ⟨_, e⟩ | ⟨g, off, cap, cur, e, h1, h2, h3, h4, h5⟩
  · subst e; simp at hp
  · exact ⟨g, off, cap, e, h2.lt⟩
end
theorem QRow.popped {w : World} {B : Nat} {v : Value} {d : Nat} {tl : List Int} (h : QRow w B v ((d : Int) :: tl)) : ∃ g off m cap, v = .slice (some ⟨g, off, none⟩) m cap ∧ g < w.heap.size ∧ w.cell? ⟨g, off, none⟩ = some (.int .i64 d) ∧ m = tl.length + 1 ∧ m ≤ cap ∧
    (cap ≠ 1 → QRow w B (.slice (some ⟨g, off + 1, none⟩) (m - 1) (cap - 1)) tl) ∧ (cap = 1 → QRow w B (.slice (some ⟨g, off, none⟩) 0 0) tl) := by
  have hp : 0 < ((d : Int) :: tl).length := by simp
  obtain ⟨g, off, cap, rfl, hg⟩ := h.shape hp
  obtain ⟨h1, h2⟩ := h.head hp
  refine ⟨g, off, _, cap, rfl, hg, h1, rfl, h2, fun hc => h.pop1 hp hc, fun hc => ?_⟩
  subst hc
  exact h.pop0 hp
theorem near_push {C n1 ob d : Nat} {wr w8 : World} {vn vq v8 : Value} {ys : List Value} {u : Value} {o : Obj} (hN : wr.ownsRow C 3 1 vn n1 ys) (hob : ob < C) (hNE : vq.ownBlock = none ∨ vq.ownBlock ≠ vn.ownBlock)
    (hg : ((wr.setCell ⟨ob, d, none⟩ u).alloc o).grownBy w8 vq.ownBlock) (hat : v8.ownBlock = vq.ownBlock ∨ v8.ownBlock = some ((wr.setCell ⟨ob, d, none⟩ u).alloc o).heap.size) : w8.ownsRow C 3 1 vn n1 ys ∧ (v8.ownBlock = none ∨ v8.ownBlock ≠ vn.ownBlock) := by
  have hl := hN.lt
  have h1 := (own_set hN (p := ⟨ob, d, none⟩) (fun e => by have := (hl ob e).1; omega) u).alloc o
  refine ⟨h1.kept hg ?_, ?_⟩
  · rcases hNE with e | e
    · cases hv : vn.ownBlock with
      | none => exact .inl rfl
      | some k => right; rw [e]; simp
    · exact .inr fun k => e k.symm
  · rcases hat with e | e
    · rw [e]; exact hNE
    · right
      rw [e]
      intro k
      have := (hl _ k.symm).2
      simp at this
      omega
theorem grid_spans' {w : World} {B : Nat} {a b c v : Value} {g : G} (h : GridAt w B (.agg #[a, b, c, v]) g) : SpansAt w B v g.ss := by
  obtain ⟨u, e, h⟩ := h
  injection e with e
  injection e with e
  injection e with _ e
  injection e with _ e
  injection e with _ e
  injection e with e _
  rw [e]
  exact h
def WetOut (g : G) (sts : List Nat) (lv : Int) (w : World) (e : Ending) (w' : World) : Prop := ∃ v bs, e = .returned v ∧ BoolsAt w' w'.heap.size v bs ∧ bs.length = g.ss.length ∧ (∀ c, bs.getD c false = true ↔ WetAt g sts lv c) ∧ Below w.heap.size w w'
set_option maxRecDepth 100000 in
set_option maxHeartbeats 8000000 in
theorem wet_any (x y : Value) (g : G) (l : List Int) (sts : List Nat) (lv : Int) (w : World) (hg : GridAt w w.heap.size x g) (hy : IntsAt w w.heap.size y l) (V : Valid g) (hls : l = sts.map fun (c : Nat) => (c : Int)) (hst : ∀ c ∈ sts, c < g.ss.length)
    (hll : l.length ≤ 65536) :
    Calls Tryz.prog 42 #[x, y, .int .i64 lv] w (WetOut g sts lv w) := by
  obtain ⟨v, rfl, hs⟩ := hg
  have HS := Lib.hid hs
  have HY := Lib.hid hy
  obtain ⟨A, k, rfl, hk, hm⟩ := hs.open_
  obtain ⟨A', k', rfl, hk', hm'⟩ := hy.open_
  have HV := Lib.hid V
  have hsm := V.small
  have hsl : sts.length = l.length := by rw [hls, List.length_map]
  have HG : Hid (∀ k (h : k < l.length), ∃ c : Nat, l[k] = c ∧ c < g.ss.length ∧ c ∈ sts ∧ sts.take (k + 1) = sts.take k ++ [c]) := fun k h => by
    have h' : k < sts.length := by omega
    refine ⟨sts[k], ?_, hst _ (List.getElem_mem h'), List.getElem_mem h', take_snoc sts k h'⟩
    subst hls
    rw [List.getElem_map]
  have HT : Hid (sts.take l.length = sts) := by rw [Hid, List.take_of_length_le (by omega)]
  clear hs hy V hls hst hsl
  obtain ⟨W1, hW1⟩ : ∃ W1, w.alloc (.cells #[.int .i64 g.W, .int .i64 g.H, .int .i64 g.S, .slice A g.ss.length k] 24) = W1 := ⟨_, rfl⟩
  have HB : Hid (Below w.heap.size w W1) := by rw [← hW1]; exact (by repeat (first | exact Below.refl _ _ | assumption | refine Below.drew ?_ | refine Below.drewN' ?_ _ | (refine Below.alloc ?_ (by simp <;> omega) _) | (refine Below.setCell ?_ (by simp <;> omega) _)))
  have HBB : Hid (Blk W1 w.heap.size 24 #[.int .i64 g.W, .int .i64 g.H, .int .i64 g.S, .slice A g.ss.length k]) := by rw [← hW1]; exact Blk.new' _ _ _ rfl
  have HW1 := Lib.hid hW1
  clear hW1
  have lk : w.heap.size < W1.heap.size := HBB.out.lt
  obtain ⟨j0, hj0, hy0, hy1, hy2⟩ := info_parts bool_info
  have hmb := fun W => run_make_rowN (P := Tryz.prog) 39 4 j0 _ Tryz.underlying39 hj0 hy0 .i64 .i64 g.ss.length g.ss.length (Nat.le_refl _) (by rw [hy2]; omega) (by omega) W
  rw [hy1] at hmb
  simp only [Value.cells] at hmb
  clear hj0 hy0 hy1 hy2
  have HO0 := Lib.hid (own_made W1 4 #[.bool false] g.ss.length 1 W1.heap.size (Nat.le_refl _) (by omega))
  go_enter Tryz.func42, Tryz.ntmps42
  go_upto_region 1 with (fail)
  rw [HW1.out]
  obtain ⟨d0, d1, d2, d3⟩ := grid_parts HBB.out
  go_wp2_with fail
  clear d0 d1 d2 d3 hmb
  have hWS := WetSt.init g sts lv
  have HWS := Lib.hid hWS
  clear hWS
  go_loopw [8, 20] (fun a i wr => ∃ (q : Nat) (out : List Bool) (nx : List Int) (vq : Value), vq = a ∧ q ≤ l.length ∧ i = .int .i64 q ∧ Hid (WetSt g sts lv (sts.take q) (fun _ => False) out nx) ∧ Hid (WetM W1.heap.size W1 wr g.ss.length out nx vq) ∧ nx.length + falses g.ss.length out ≤ g.ss.length) (fun _ i _ => l.length - (intOf i).toNat)
  case atStart =>
    refine ⟨0, _, [], _, rfl, Nat.zero_le _, rfl, HWS.out, ⟨?_, .inl ⟨rfl, rfl⟩, (Below.refl _ _).alloc (Nat.le_refl _) _⟩, ?_⟩
    · have h := HO0.out
      rw [Nat.mul_one, madeCells_bools] at h
      exact h
    · have := falses_le g.ss.length (List.replicate g.ss.length false)
      simpa using this
  case round =>
    obtain ⟨q, out, nx, vq, rfl, hq, rfl, HW, HM, hme⟩ := hrel
    have HBw := Lib.hid (HB.out.trans (HM.out.bel.mono HB.out.size))
    have HBk := Lib.hid (HBB.out.below HM.out.bel HBB.out.lt)
    by_cases hlt : q < l.length
    · have hq0 : (0 : Int) ≤ (q : Int) := by omega
      have hq1 : (q : Int) < (l.length : Int) := by omega
      obtain ⟨b1, o1', rfl, hb1, c1⟩ := (HY.out.below HBw.out).at_ hlt
      obtain ⟨d, hld, hd, hds, htk⟩ := HG.out q hlt
      rw [hld] at c1
      have Htk := Lib.hid htk
      have hd0 : (0 : Int) ≤ (d : Int) := by omega
      have hd1 : (d : Int) < (g.ss.length : Int) := by omega
      clear hld htk
      obtain ⟨b2, o2, lo, hi, rfl, hb2, e2, c2, c3⟩ := (HS.out.below HBw.out).atD hd
      have El : Hid (loF g.ss d = lo) := by rw [Hid, loF, e2]
      have HWd : Hid (lo < lv → WetAt g sts lv d) := fun h => wet_start hds (by rw [El.out]; exact h)
      clear e2 hds c3
      have o1 := own_bools_at HM.out.own (k := d) (by rw [HW.out.lenW]; exact hd)
      have HGo : Hid (out.getD d false = out[d]'(by rw [HW.out.lenW]; exact hd)) := by rw [Hid, List.getD_eq_getElem?_getD, List.getElem?_eq_getElem (by rw [HW.out.lenW]; exact hd)]; rfl
      rw [← HGo.out] at o1
      obtain ⟨d0, d1', d2, d3⟩ := grid_parts HBk.out
      clear d0 d1' d2 HGo
      by_cases hlo : lo < lv
      · cases hb : out.getD d false with
        | true =>
          have Hs := Lib.hid (hb)
          rw [hb] at o1
          clear hb
          go_wp2
          go_roundw
          case rel => exact ⟨q + 1, out, nx, vq, rfl, by omega, by go_num, by rw [Htk.out]; exact HW.out.start (fun hx => Hs.out), HM.out, hme⟩
          case measure => simp [intOf]; omega
        | false =>
          have Hf := Lib.hid hb
          rw [hb] at o1
          clear hb
          have HWp := Lib.hid (HW.out.push hd (HWd.out hlo))
          have HFp := Lib.hid (falses_set (out := out) g.ss.length (d := d) (by rw [HW.out.lenW]; exact hd) hd Hf.out)
          have HSp : Hid ((out.set d true).getD d false = true) := by rw [Hid, getD_setB out d d (by rw [HW.out.lenW]; exact hd), if_pos rfl]
          have f1 := HM.out.own.frozenAt d
          have HMs := Lib.hid ((HM.out.set d).below ((Below.refl _ _).alloc (Nat.le_refl _) (.cells #[.int .i64 d] 3)))
          have HQ : Hid (QRow ((wr.setCell ⟨W1.heap.size, d, none⟩ (.bool true)).alloc (.cells #[.int .i64 d] 3)) W1.heap.size vq nx) := HMs.out.q
          have hll := HM.out.le
          go_wp2_with (at_builtin; ((refine wpList_append_q (v := vq) (xs := nx) (B := W1.heap.size) rfl (.tmp 42) (.tmp 44) rfl rfl HQ.out (d : Int) ⟨wr.heap.size, 0, none⟩ rfl (cell_one_new' _ _ _ (by simp)) (by omega) (by simp <;> omega) ?_; intro v8 w8 hq8 hg8 hat8; have HM8 := Lib.hid (HMs.out.push hq8 hg8); clear hq8 hg8 hat8)))
          go_roundw
          case rel => exact ⟨q + 1, out.set d true, nx ++ [(d : Int)], v8, rfl, by omega, by go_num, by rw [Htk.out]; exact HWp.out.start (fun _ => HSp.out), HM8.out, by have := HFp.out; rw [List.length_append]; simp; omega⟩
          case measure => simp [intOf]; omega
      · have hlo' : ¬ lo < lv := hlo
        go_wp2
        go_roundw
        case rel => exact ⟨q + 1, out, nx, vq, rfl, by omega, by go_num, by rw [Htk.out]; exact HW.out.start (fun hx => absurd (by rw [El.out] at hx; exact hx) hlo), HM.out, hme⟩
        case measure => simp [intOf]; omega
    · have hqe : q = l.length := by omega
      have HW0 : Hid (WetSt g sts lv sts (fun _ => False) out nx) := by
        have h := HW.out
        rw [hqe, HT.out] at h
        exact h
      clear hqe hq HW HO0 HG
      have hmg : nx.length + falses g.ss.length out ≤ g.ss.length := hme
      obtain ⟨w6, rfl⟩ : ∃ w6, w6 = wr := ⟨_, rfl⟩
      clear HBw HBk hme
      go_wp2_with fail
      go_loopg [8] (g.ss.length) (fun n a wr => ∃ (out : List Bool) (nx : List Int) (vq : Value), vq = a ∧ Hid (WetSt g sts lv sts (fun _ => False) out nx) ∧ Hid (WetM W1.heap.size W1 wr g.ss.length out nx vq) ∧ Hid (nx.length + falses g.ss.length out ≤ n ∧ n ≤ 600))
      case atStart => exact ⟨out, nx, _, rfl, HW0.out, HM.out, hmg, by omega⟩
      case round =>
        clear HW0 HM hmg HWS
        obtain ⟨out, nx, vq, rfl, HW, HM, HN⟩ := hrel
        have HBw := Lib.hid (HB.out.trans (HM.out.bel.mono HB.out.size))
        have HBk := Lib.hid (HBB.out.below HM.out.bel HBB.out.lt)
        cases nx with
        | cons z tl =>
          obtain ⟨c, rfl, hcl, _⟩ := HW.out.nxW z (by simp)
          obtain ⟨gq, oq, m, cq, rfl, hgq, hc1, hm, hmc, hP1, hP0⟩ := HM.out.q.popped
          have HP1 := Lib.hid hP1
          have HP0 := Lib.hid hP0
          have Hm := Lib.hid hm
          have hm0 : 0 < m := by omega
          have hm1 : (0 : Int) < (m : Int) := by omega
          have hm2 : (1 : Int) ≤ (m : Int) := by omega
          have hm3 : (m : Int) ≤ (cq : Int) := by omega
          have hc0 : (0 : Int) ≤ (c : Int) := by omega
          have hc2 : (c : Int) < (g.ss.length : Int) := by omega
          have HWp := Lib.hid HW.out.pop.1
          have HWc := Lib.hid HW.out.pop.2.1
          have HMB : Hid (∀ {M : Nat}, tl.length + falses g.ss.length out = M → M ≤ 1000) := fun h => by have := HN.out; simp at this; omega
          clear hP1 hP0 hm
          by_cases hcq : cq = 1
          · have hq1 := HP0.out hcq
            have HQ1 := Lib.hid hq1
            clear hq1
            subst hcq
            obtain rfl : m = 1 := by omega
            obtain ⟨d0, d1, d2, d3⟩ := grid_parts HBk.out
            go_wp2_with fail
            refine (lnear_own _ g c _ ⟨_, rfl, HS.out.later HBw.out (Nat.le_refl _)⟩ HV.out hcl).mono ?_
            rintro e w7 ⟨vn, rfl, hn7, hb7⟩
            clear d0 d1 d2 d3
            have hMq : WetM W1.heap.size W1 wr g.ss.length out tl (.slice (some ⟨gq, oq, none⟩) 0 0) := ⟨HM.out.own, HQ1.out, HM.out.bel⟩
            have HM7 := Lib.hid (hMq.below hb7)
            have HNr := Lib.hid hn7
            have HNE : Hid (((.slice (some ⟨gq, oq, none⟩) 0 0) : Value).ownBlock = none ∨ ((.slice (some ⟨gq, oq, none⟩) 0 0) : Value).ownBlock ≠ vn.ownBlock) := by
              refine .inr fun e => ?_
              have a := HQ1.out.lt gq rfl
              have b := (hn7.lt gq e.symm).1
              omega
            have hwo : W1.heap.size < wr.heap.size := HM.out.le
            have hw7 := hb7.size
            have HNg := Lib.hid (fun q hq => nearP_get HV.out hcl (q := q) hq)
            have HNm := Lib.hid (fun z => (nearP_mem HV.out hcl z).2)
            obtain ⟨An, cn, rfl, _, _⟩ := IntsAt.open_ (Reads.of_own hn7)
            have hC : W1.heap.size < wr.heap.size + 1 := by omega
            clear hMq hn7 hb7 HQ1 HM
            generalize nearP g c g.ss.length = N1 at *
            obtain ⟨wo, rfl⟩ : ∃ wo : World, wo = wr := ⟨_, rfl⟩
            obtain ⟨M0, hM0⟩ : ∃ M, tl.length + falses g.ss.length out = M := ⟨_, rfl⟩
            have HM0 : Hid (M0 + 1 ≤ gk ∧ gk ≤ 600) := by have := HN.out; rw [Hid, ← hM0]; simp at this; omega
            have hMn : M0 ≤ 1000 := HMB.out hM0
            have hme : tl.length + falses g.ss.length out ≤ M0 := Nat.le_of_eq hM0
            clear hM0 HN
            go_wp2_with fail
            go_loopw [8, 59] (fun a j wq => ∃ (q : Nat) (out : List Bool) (nx : List Int) (vq : Value), vq = a ∧ q ≤ N1.length ∧ j = .int .i64 q ∧ Hid (WetSt g sts lv sts (fun e => e = c) out nx) ∧ Hid (∀ (j z : Nat), j < q → N1[j]? = some (z : Int) → loF g.ss z < lv → out.getD z false = true) ∧ Hid (WetM W1.heap.size W1 wq g.ss.length out nx vq) ∧ Hid (wq.ownsRow (wo.heap.size + 1) 3 1 (.slice An N1.length cn) N1.length (N1.map (Value.int .i64))) ∧ Hid (vq.ownBlock = none ∨ vq.ownBlock ≠ (Value.slice An N1.length cn).ownBlock) ∧ nx.length + falses g.ss.length out ≤ M0) (fun _ j _ => N1.length - (intOf j).toNat)
            case atStart => exact ⟨0, out, tl, _, rfl, Nat.zero_le _, rfl, HWp.out, (fun j z h => absurd h (by omega)), HM7.out, HNr.out, HNE.out, hme⟩
            case round =>
              clear HW HNr HNE HM7 HWp hme HBw HBk
              obtain ⟨q, out, nx, vq, rfl, hq, rfl, HW, HD, HM, HNr, HNE, hme⟩ := hrel
              have HBq := Lib.hid (HB.out.trans (HM.out.bel.mono HB.out.size))
              have HBk := Lib.hid (HBB.out.below HM.out.bel HBB.out.lt)
              by_cases hlt : q < N1.length
              · have hq0 : (0 : Int) ≤ (q : Int) := by omega
                have hq1 : (q : Int) < (N1.length : Int) := by omega
                obtain ⟨d, hld, hd, hdn⟩ := HNg.out q hlt
                obtain ⟨nb, cn', enb, _, _, _⟩ := own_shape HNr.out (by omega)
                injection enb with e1 _ e3
                subst e1 e3
                have c1 := own_ints_at HNr.out hlt
                rw [hld] at c1
                have HLd := Lib.hid hld
                clear hld
                have hd0 : (0 : Int) ≤ (d : Int) := by omega
                have hd1 : (d : Int) < (g.ss.length : Int) := by omega
                obtain ⟨b2, o2, lo, hi, rfl, hb2, e2, c2, c3⟩ := (HS.out.below HBq.out).atD hd
                have El : Hid (loF g.ss d = lo) := by rw [Hid, loF, e2]
                have HWd : Hid (lo < lv → WetAt g sts lv d) := fun h => wet_step HWc.out hdn (by rw [El.out]; exact h)
                clear e2 hdn c3
                have o1 := own_bools_at HM.out.own (k := d) (by rw [HW.out.lenW]; exact hd)
                have HGo : Hid (out.getD d false = out[d]'(by rw [HW.out.lenW]; exact hd)) := by rw [Hid, List.getD_eq_getElem?_getD, List.getElem?_eq_getElem (by rw [HW.out.lenW]; exact hd)]; rfl
                rw [← HGo.out] at o1
                obtain ⟨d0, d1', d2, d3⟩ := grid_parts HBk.out
                clear d0 d1' d2 HGo
                have HDn : Hid ((loF g.ss d < lv → out.getD d false = true) → ∀ (j z : Nat), j < q + 1 → N1[j]? = some (z : Int) → loF g.ss z < lv → out.getD z false = true) := fun h j z hj hz hl => by
                  by_cases e : j = q
                  · subst e
                    rw [List.getElem?_eq_getElem hlt, HLd.out] at hz
                    injection hz with hz
                    obtain rfl : d = z := by omega
                    exact h hl
                  · exact HD.out j z (by omega) hz hl
                by_cases hlo : lo < lv
                · cases hb : out.getD d false with
                  | true =>
                    have Hs := Lib.hid hb
                    rw [hb] at o1
                    clear hb
                    go_wp2
                    go_roundw
                    case rel => exact ⟨q + 1, out, nx, vq, rfl, by omega, by go_num, HW.out, HDn.out (fun _ => Hs.out), HM.out, HNr.out, HNE.out, hme⟩
                    case measure => simp [intOf]; omega
                  | false =>
                    have Hf := Lib.hid hb
                    rw [hb] at o1
                    clear hb
                    have HWp := Lib.hid (HW.out.push hd (HWd.out hlo))
                    have HFp := Lib.hid (falses_set (out := out) g.ss.length (d := d) (by rw [HW.out.lenW]; exact hd) hd Hf.out)
                    have HDp : Hid (∀ (j z : Nat), j < q + 1 → N1[j]? = some (z : Int) → loF g.ss z < lv → (out.set d true).getD z false = true) := fun j z hj hz hl => by
                      rw [getD_setB out d z (by rw [HW.out.lenW]; exact hd)]
                      by_cases e : d = z
                      · rw [if_pos e]
                      · rw [if_neg e]
                        by_cases e2 : j = q
                        · subst e2
                          rw [List.getElem?_eq_getElem hlt, HLd.out] at hz
                          injection hz with hz
                          exact absurd (by omega) e
                        · exact HD.out j z (by omega) hz hl
                    have f1 := HM.out.own.frozenAt d
                    have HMs := Lib.hid ((HM.out.set d).below ((Below.refl _ _).alloc (Nat.le_refl _) (.cells #[.int .i64 d] 3)))
                    have HQ : Hid (QRow ((wr.setCell ⟨W1.heap.size, d, none⟩ (.bool true)).alloc (.cells #[.int .i64 d] 3)) W1.heap.size vq nx) := HMs.out.q
                    have hlw := HM.out.le
                    go_wp2_with (at_builtin; ((refine wpList_append_q (v := vq) (xs := nx) (B := W1.heap.size) rfl (.tmp 81) (.tmp 83) rfl rfl HQ.out (d : Int) ⟨wr.heap.size, 0, none⟩ rfl (cell_one_new' _ _ _ (by simp)) (by omega) (by simp <;> omega) ?_; intro v8 w8 hq8 hg8 hat8; have HM8 := Lib.hid (HMs.out.push hq8 hg8); have HNP := Lib.hid (near_push HNr.out hC HNE.out hg8 hat8); clear hq8 hg8 hat8)))
                    go_roundw
                    case rel => exact ⟨q + 1, out.set d true, nx ++ [(d : Int)], v8, rfl, by omega, by go_num, HWp.out, HDp.out, HM8.out, HNP.out.1, HNP.out.2, by have := HFp.out; rw [List.length_append]; simp; omega⟩
                    case measure => simp [intOf]; omega
                · have hlo' : ¬ lo < lv := hlo
                  go_wp2
                  go_roundw
                  case rel => exact ⟨q + 1, out, nx, vq, rfl, by omega, by go_num, HW.out, HDn.out (fun hx => absurd (by rw [El.out] at hx; exact hx) hlo), HM.out, HNr.out, HNE.out, hme⟩
                  case measure => simp [intOf]; omega
              · have hqe : q = N1.length := by omega
                have HDo : Hid (DoneW g lv out c) := fun z hz hl => by
                  obtain ⟨j, hj, he⟩ := List.getElem_of_mem (HNm.out z hz)
                  exact HD.out j z (by omega) (by rw [List.getElem?_eq_getElem hj, he]) hl
                have hgk := HM0.out
                clear hqe HD
                go_wp2
                go_roundg (gk - 1)
                case measure => omega
                case rel => exact ⟨out, nx, vq, rfl, HW.out.popped HDo.out, HM.out, by omega, by omega⟩
          · have hq1 := HP1.out hcq
            have HQ1 := Lib.hid hq1
            clear hq1
            obtain ⟨d0, d1, d2, d3⟩ := grid_parts HBk.out
            go_wp2_with fail
            refine (lnear_own _ g c _ ⟨_, rfl, HS.out.later HBw.out (Nat.le_refl _)⟩ HV.out hcl).mono ?_
            rintro e w7 ⟨vn, rfl, hn7, hb7⟩
            clear d0 d1 d2 d3
            have hMq : WetM W1.heap.size W1 wr g.ss.length out tl (.slice (some ⟨gq, oq + 1, none⟩) (m - 1) (cq - 1)) := ⟨HM.out.own, HQ1.out, HM.out.bel⟩
            have HM7 := Lib.hid (hMq.below hb7)
            have HNr := Lib.hid hn7
            have HNE : Hid (((.slice (some ⟨gq, oq + 1, none⟩) (m - 1) (cq - 1)) : Value).ownBlock = none ∨ ((.slice (some ⟨gq, oq + 1, none⟩) (m - 1) (cq - 1)) : Value).ownBlock ≠ vn.ownBlock) := by
              refine .inr fun e => ?_
              have a := HQ1.out.lt gq rfl
              have b := (hn7.lt gq e.symm).1
              omega
            have hwo : W1.heap.size < wr.heap.size := HM.out.le
            have hw7 := hb7.size
            have HNg := Lib.hid (fun q hq => nearP_get HV.out hcl (q := q) hq)
            have HNm := Lib.hid (fun z => (nearP_mem HV.out hcl z).2)
            obtain ⟨An, cn, rfl, _, _⟩ := IntsAt.open_ (Reads.of_own hn7)
            have hC : W1.heap.size < wr.heap.size + 1 := by omega
            clear hMq hn7 hb7 HQ1 HM
            generalize nearP g c g.ss.length = N1 at *
            obtain ⟨wo, rfl⟩ : ∃ wo : World, wo = wr := ⟨_, rfl⟩
            obtain ⟨M0, hM0⟩ : ∃ M, tl.length + falses g.ss.length out = M := ⟨_, rfl⟩
            have HM0 : Hid (M0 + 1 ≤ gk ∧ gk ≤ 600) := by have := HN.out; rw [Hid, ← hM0]; simp at this; omega
            have hMn : M0 ≤ 1000 := HMB.out hM0
            have hme : tl.length + falses g.ss.length out ≤ M0 := Nat.le_of_eq hM0
            clear hM0 HN
            go_wp2_with fail
            go_loopw [8, 59] (fun a j wq => ∃ (q : Nat) (out : List Bool) (nx : List Int) (vq : Value), vq = a ∧ q ≤ N1.length ∧ j = .int .i64 q ∧ Hid (WetSt g sts lv sts (fun e => e = c) out nx) ∧ Hid (∀ (j z : Nat), j < q → N1[j]? = some (z : Int) → loF g.ss z < lv → out.getD z false = true) ∧ Hid (WetM W1.heap.size W1 wq g.ss.length out nx vq) ∧ Hid (wq.ownsRow (wo.heap.size + 1) 3 1 (.slice An N1.length cn) N1.length (N1.map (Value.int .i64))) ∧ Hid (vq.ownBlock = none ∨ vq.ownBlock ≠ (Value.slice An N1.length cn).ownBlock) ∧ nx.length + falses g.ss.length out ≤ M0) (fun _ j _ => N1.length - (intOf j).toNat)
            case atStart => exact ⟨0, out, tl, _, rfl, Nat.zero_le _, rfl, HWp.out, (fun j z h => absurd h (by omega)), HM7.out, HNr.out, HNE.out, hme⟩
            case round =>
              clear HW HNr HNE HM7 HWp hme HBw HBk
              obtain ⟨q, out, nx, vq, rfl, hq, rfl, HW, HD, HM, HNr, HNE, hme⟩ := hrel
              have HBq := Lib.hid (HB.out.trans (HM.out.bel.mono HB.out.size))
              have HBk := Lib.hid (HBB.out.below HM.out.bel HBB.out.lt)
              by_cases hlt : q < N1.length
              · have hq0 : (0 : Int) ≤ (q : Int) := by omega
                have hq1 : (q : Int) < (N1.length : Int) := by omega
                obtain ⟨d, hld, hd, hdn⟩ := HNg.out q hlt
                obtain ⟨nb, cn', enb, _, _, _⟩ := own_shape HNr.out (by omega)
                injection enb with e1 _ e3
                subst e1 e3
                have c1 := own_ints_at HNr.out hlt
                rw [hld] at c1
                have HLd := Lib.hid hld
                clear hld
                have hd0 : (0 : Int) ≤ (d : Int) := by omega
                have hd1 : (d : Int) < (g.ss.length : Int) := by omega
                obtain ⟨b2, o2, lo, hi, rfl, hb2, e2, c2, c3⟩ := (HS.out.below HBq.out).atD hd
                have El : Hid (loF g.ss d = lo) := by rw [Hid, loF, e2]
                have HWd : Hid (lo < lv → WetAt g sts lv d) := fun h => wet_step HWc.out hdn (by rw [El.out]; exact h)
                clear e2 hdn c3
                have o1 := own_bools_at HM.out.own (k := d) (by rw [HW.out.lenW]; exact hd)
                have HGo : Hid (out.getD d false = out[d]'(by rw [HW.out.lenW]; exact hd)) := by rw [Hid, List.getD_eq_getElem?_getD, List.getElem?_eq_getElem (by rw [HW.out.lenW]; exact hd)]; rfl
                rw [← HGo.out] at o1
                obtain ⟨d0, d1', d2, d3⟩ := grid_parts HBk.out
                clear d0 d1' d2 HGo
                have HDn : Hid ((loF g.ss d < lv → out.getD d false = true) → ∀ (j z : Nat), j < q + 1 → N1[j]? = some (z : Int) → loF g.ss z < lv → out.getD z false = true) := fun h j z hj hz hl => by
                  by_cases e : j = q
                  · subst e
                    rw [List.getElem?_eq_getElem hlt, HLd.out] at hz
                    injection hz with hz
                    obtain rfl : d = z := by omega
                    exact h hl
                  · exact HD.out j z (by omega) hz hl
                by_cases hlo : lo < lv
                · cases hb : out.getD d false with
                  | true =>
                    have Hs := Lib.hid hb
                    rw [hb] at o1
                    clear hb
                    go_wp2
                    go_roundw
                    case rel => exact ⟨q + 1, out, nx, vq, rfl, by omega, by go_num, HW.out, HDn.out (fun _ => Hs.out), HM.out, HNr.out, HNE.out, hme⟩
                    case measure => simp [intOf]; omega
                  | false =>
                    have Hf := Lib.hid hb
                    rw [hb] at o1
                    clear hb
                    have HWp := Lib.hid (HW.out.push hd (HWd.out hlo))
                    have HFp := Lib.hid (falses_set (out := out) g.ss.length (d := d) (by rw [HW.out.lenW]; exact hd) hd Hf.out)
                    have HDp : Hid (∀ (j z : Nat), j < q + 1 → N1[j]? = some (z : Int) → loF g.ss z < lv → (out.set d true).getD z false = true) := fun j z hj hz hl => by
                      rw [getD_setB out d z (by rw [HW.out.lenW]; exact hd)]
                      by_cases e : d = z
                      · rw [if_pos e]
                      · rw [if_neg e]
                        by_cases e2 : j = q
                        · subst e2
                          rw [List.getElem?_eq_getElem hlt, HLd.out] at hz
                          injection hz with hz
                          exact absurd (by omega) e
                        · exact HD.out j z (by omega) hz hl
                    have f1 := HM.out.own.frozenAt d
                    have HMs := Lib.hid ((HM.out.set d).below ((Below.refl _ _).alloc (Nat.le_refl _) (.cells #[.int .i64 d] 3)))
                    have HQ : Hid (QRow ((wr.setCell ⟨W1.heap.size, d, none⟩ (.bool true)).alloc (.cells #[.int .i64 d] 3)) W1.heap.size vq nx) := HMs.out.q
                    have hlw := HM.out.le
                    go_wp2_with (at_builtin; ((refine wpList_append_q (v := vq) (xs := nx) (B := W1.heap.size) rfl (.tmp 81) (.tmp 83) rfl rfl HQ.out (d : Int) ⟨wr.heap.size, 0, none⟩ rfl (cell_one_new' _ _ _ (by simp)) (by omega) (by simp <;> omega) ?_; intro v8 w8 hq8 hg8 hat8; have HM8 := Lib.hid (HMs.out.push hq8 hg8); have HNP := Lib.hid (near_push HNr.out hC HNE.out hg8 hat8); clear hq8 hg8 hat8)))
                    go_roundw
                    case rel => exact ⟨q + 1, out.set d true, nx ++ [(d : Int)], v8, rfl, by omega, by go_num, HWp.out, HDp.out, HM8.out, HNP.out.1, HNP.out.2, by have := HFp.out; rw [List.length_append]; simp; omega⟩
                    case measure => simp [intOf]; omega
                · have hlo' : ¬ lo < lv := hlo
                  go_wp2
                  go_roundw
                  case rel => exact ⟨q + 1, out, nx, vq, rfl, by omega, by go_num, HW.out, HDn.out (fun hx => absurd (by rw [El.out] at hx; exact hx) hlo), HM.out, HNr.out, HNE.out, hme⟩
                  case measure => simp [intOf]; omega
              · have hqe : q = N1.length := by omega
                have HDo : Hid (DoneW g lv out c) := fun z hz hl => by
                  obtain ⟨j, hj, he⟩ := List.getElem_of_mem (HNm.out z hz)
                  exact HD.out j z (by omega) (by rw [List.getElem?_eq_getElem hj, he]) hl
                have hgk := HM0.out
                clear hqe HD
                go_wp2
                go_roundg (gk - 1)
                case measure => omega
                case rel => exact ⟨out, nx, vq, rfl, HW.out.popped HDo.out, HM.out, by omega, by omega⟩
        | nil =>
          have HFn := Lib.hid (fun c => HW.out.final c)
          have HOb : Hid (BoolsAt wr wr.heap.size (.slice (some ⟨W1.heap.size, 0, none⟩) g.ss.length g.ss.length) out) := by
            have h := Reads.of_own HM.out.own
            have e := HW.out.lenW
            show Reads wr wr.heap.size 1 _ out.length _
            rw [e]
            exact h
          have HLn := Lib.hid HW.out.lenW
          rcases HM.out.q with ⟨rfl, _⟩ | ⟨g', off', cap', cur', rfl, _, _, _, _, _⟩
          all_goals
            go_wp2
            go_ret
            exact ⟨_, out, rfl, HOb.out, HLn.out, HFn.out, HBw.out⟩
end Go.Proofs.YthcenmocnphnmaaGreatDoor
/-
  The law's flips, depth.
-/
namespace Go.Proofs.YthcenmocnphnmaaGreatDoor
open Go.RowKit Go.Shelf

theorem bs_at {w : World} {B n c : Nat} {A : Option Addr} {bs : List Bool} {k : Nat} {b : Bool} (h : BoolsAt w B (.slice A n k) bs) (hc : c < bs.length) (hb : bs.getD c false = b) : ∃ g off, A = some ⟨g, off, none⟩ ∧ w.cell? ⟨g, off + c, none⟩ = some (.bool b) := by
  obtain ⟨g, off, x, e, _, e2, h1⟩ := h.atD hc
  exact ⟨g, off, e, by rw [← hb, e2]; exact h1⟩
set_option maxRecDepth 100000 in
set_option maxHeartbeats 4000000 in
theorem flips_yes (x y : Value) (g : G) (l : List Int) (sts : List Nat) (lv : Int) (c : Nat) (w : World) (hg : GridAt w w.heap.size x g) (hy : IntsAt w w.heap.size y l) (V : Valid g) (hls : l = sts.map fun (c : Nat) => (c : Int)) (hst : ∀ c ∈ sts, c < g.ss.length)
    (hll : l.length ≤ 65536) (hc : c < g.ss.length) (hlv : -2000000 ≤ lv ∧ lv ≤ 2000000) (h1 : ¬ WetAt g sts lv c) (h2 : WetAt g sts (lv + 1) c) :
    Calls Tryz.prog 44 #[x, y, .int .i64 c, .int .i64 lv] w fun e w' => e = .returned (.bool true) ∧ Below w.heap.size w w' := by
  have HG := Lib.hid hg
  have HY := Lib.hid hy
  have HV := Lib.hid V
  have HLS := Lib.hid hls
  have HST := Lib.hid hst
  have H1 := Lib.hid h1
  have H2 := Lib.hid h2
  obtain ⟨v, rfl, hs⟩ := hg
  obtain ⟨A, k, rfl, hk, hm⟩ := hs.open_
  clear hs hy V hls hst h1 h2
  obtain ⟨W1, hW1⟩ : ∃ W1, w.alloc (.cells #[.int .i64 g.W, .int .i64 g.H, .int .i64 g.S, .slice A g.ss.length k] 24) = W1 := ⟨_, rfl⟩
  have HB : Hid (Below w.heap.size w W1) := by rw [← hW1]; exact (by repeat (first | exact Below.refl _ _ | assumption | refine Below.drew ?_ | refine Below.drewN' ?_ _ | (refine Below.alloc ?_ (by simp <;> omega) _) | (refine Below.setCell ?_ (by simp <;> omega) _)))
  have HBB : Hid (Blk W1 w.heap.size 24 #[.int .i64 g.W, .int .i64 g.H, .int .i64 g.S, .slice A g.ss.length k]) := by rw [← hW1]; exact Blk.new' _ _ _ rfl
  have HW1 := Lib.hid hW1
  clear hW1
  have hc0 : (0 : Int) ≤ (c : Int) := by omega
  have hc1 : (c : Int) < (g.ss.length : Int) := by omega
  obtain ⟨hlv1, hlv2⟩ := hlv
  go_enter Tryz.func44, Tryz.ntmps44
  go_upto_region 1 with (fail)
  rw [HW1.out]
  obtain ⟨d0, d1, d2, d3⟩ := grid_parts HBB.out
  go_wp2_with fail
  refine (wet_any _ _ g l sts lv _ (HG.out.later HB.out (Nat.le_refl _)) (HY.out.later HB.out (Nat.le_refl _)) HV.out HLS.out HST.out hll).mono ?_
  rintro e w1 ⟨v1, bs, rfl, hv1, hl1, hw1, hb1⟩
  obtain ⟨B1, k1, rfl⟩ := hv1.open_len hl1
  have hf : bs.getD c false = false := by
    cases h : bs.getD c false
    · rfl
    · exact absurd ((hw1 c).1 h) H1.out
  obtain ⟨g1, o1, rfl, c1⟩ := bs_at hv1 (by rw [hl1]; exact hc) hf
  have HB1 := Lib.hid (HB.out.trans (hb1.mono HB.out.size))
  have HK1 := Lib.hid (HBB.out.below hb1 HBB.out.lt)
  clear hv1 hl1 hw1 hb1 hf d0 d1 d2 d3
  obtain ⟨d0, d1, d2, d3⟩ := grid_parts HK1.out
  go_wp2_with fail
  refine (wet_any _ _ g l sts (lv + 1) _ (HG.out.later HB1.out (Nat.le_refl _)) (HY.out.later HB1.out (Nat.le_refl _)) HV.out HLS.out HST.out hll).mono ?_
  rintro e w2 ⟨v2, bs2, rfl, hv2, hl2, hw2, hb2⟩
  obtain ⟨B2, k2, rfl⟩ := hv2.open_len hl2
  obtain ⟨g2, o2, rfl, c2⟩ := bs_at hv2 (by rw [hl2]; exact hc) ((hw2 c).2 H2.out)
  have HB2 := Lib.hid (HB1.out.trans (hb2.mono HB1.out.size))
  clear hv2 hl2 hw2 hb2 c1 d0 d1 d2 d3
  go_wp2
  go_ret
  exact ⟨rfl, HB2.out⟩
end Go.Proofs.YthcenmocnphnmaaGreatDoor
/-
  The law's depth.
-/
namespace Go.Proofs.YthcenmocnphnmaaGreatDoor
open Go.RowKit Go.Shelf

def wallG (g : G) (c : Nat) : G := ⟨g.W, g.H, g.S, g.ss.set c (1200000, 1200000)⟩
theorem wall_ok {g : G} (h : checkE g = 0) (c : Nat) : checkE (wallG g c) = 0 := by
  have V := valid_of h
  have hr : rngG (wallG g c) = true := by
    have := V.w1; have := V.w2; have := V.h1; have := V.h2; have := V.s1; have := V.s2
    unfold rngG wallG
    simp only [decide_eq_true_eq]
    omega
  have ho : (wallG g c).ss.all (okSpan 1200000) = true := by
    rw [List.all_eq_true]
    intro s hs
    rcases List.mem_or_eq_of_mem_set hs with hs | rfl
    · exact List.all_eq_true.1 V.ok s hs
    · exact decide_eq_true (by omega)
  unfold checkE
  rw [if_pos hr, if_pos (by show ((g.ss.set c (1200000, 1200000)).length : Int) = g.W * g.H; rw [List.length_set]; exact V.len), if_pos ho]
def leastF (ss : List (Int × Int)) (l : List Int) : Int := mnF (fun d => loF ss d.toNat) 1200000 l
def DepthOut (g : G) (sts : List Nat) (c : Nat) (w : World) (e : Ending) (w' : World) : Prop := ∃ dv : Int, e = .returned (.int .i64 dv) ∧ Below w.heap.size w w' ∧ (c ∈ sts → dv = 0) ∧ (c ∉ sts → ∃ ss, Sillz (wallG g c) sts ss ∧ dv = max 0 (leastF ss (nearP g c g.ss.length) - loF g.ss c))
theorem leastF_rng {ss : List (Int × Int)} (h : ∀ c, -1200000 ≤ (ss.getD c (0, 0)).1) (l : List Int) : -1200000 ≤ leastF ss l ∧ leastF ss l ≤ 1200000 :=
  ⟨le_mnF _ _ _ _ (by omega) (fun d _ => h d.toNat), (mnF_le _ _ _).1⟩
set_option maxRecDepth 100000 in
set_option maxHeartbeats 4000000 in
theorem depth_any (x y : Value) (g : G) (l : List Int) (sts : List Nat) (c : Nat) (w : World) (hg : GridAt w w.heap.size x g) (hy : IntsAt w w.heap.size y l) (hck : checkE g = 0) (hls : l = sts.map fun (c : Nat) => (c : Int)) (hst : ∀ c ∈ sts, c < g.ss.length) (hne : sts ≠ [])
    (hll : l.length ≤ 65536) (hc : c < g.ss.length) (hsea : seaE (wallG g c) l = 0) :
    Calls Tryz.prog 45 #[x, y, .int .i64 c] w (DepthOut g sts c w) := by
  have HG := Lib.hid hg
  have HY := Lib.hid hy
  have HV := Lib.hid (valid_of hck)
  have HVw := Lib.hid (valid_of (wall_ok hck c))
  have HLS := Lib.hid hls
  have HST := Lib.hid hst
  have HSEA := Lib.hid hsea
  have HNE := Lib.hid hne
  have hsm := HV.out.small
  have hpos := HV.out.pos
  obtain ⟨v, rfl, hs⟩ := hg
  have HS := Lib.hid hs
  obtain ⟨b, off, k, rfl, hb, hn⟩ : ∃ b off k, v = .slice (some ⟨b, off, none⟩) g.ss.length k ∧ b < w.heap.size ∧ ∀ j u, (spanCells g.ss)[j]? = some u → w.cell? ((⟨b, off, none⟩ : Addr).add j) = some u := by
    obtain ⟨A, k, rfl, _, _⟩ := hs.open_
    obtain ⟨b, off, rfl, hb, hn⟩ := hs.news (by omega)
    exact ⟨b, off, k, rfl, hb, hn⟩
  obtain ⟨A', k', rfl, hk', hm'⟩ := hy.open_
  have Hn := Lib.hid hn
  clear hs hy hls hst hsea hck hne hn
  obtain ⟨W1, hW1⟩ : ∃ W1, w.alloc (.cells #[.int .i64 g.W, .int .i64 g.H, .int .i64 g.S, .slice (some ⟨b, off, none⟩) g.ss.length k] 24) = W1 := ⟨_, rfl⟩
  have HB : Hid (Below w.heap.size w W1) := by rw [← hW1]; exact (by repeat (first | exact Below.refl _ _ | assumption | refine Below.drew ?_ | refine Below.drewN' ?_ _ | (refine Below.alloc ?_ (by simp <;> omega) _) | (refine Below.setCell ?_ (by simp <;> omega) _)))
  have HBB : Hid (Blk W1 w.heap.size 24 #[.int .i64 g.W, .int .i64 g.H, .int .i64 g.S, .slice (some ⟨b, off, none⟩) g.ss.length k]) := by rw [← hW1]; exact Blk.new' _ _ _ rfl
  have HW1 := Lib.hid hW1
  clear hW1
  have lk : w.heap.size < W1.heap.size := HBB.out.lt
  have hc0 : (0 : Int) ≤ (c : Int) := by omega
  have hc1 : (c : Int) < (g.ss.length : Int) := by omega
  go_enter Tryz.func45, Tryz.ntmps45
  go_upto_region 1 with (fail)
  rw [HW1.out]
  go_wp2_with fail
  go_loopw [17] (fun i wr => ∃ q : Nat, q ≤ l.length ∧ i = .int .i64 q ∧ Hid (W1 = wr) ∧ Hid (∀ j, j < q → l[j]? ≠ some (c : Int))) (fun i _ => l.length - (intOf i).toNat)
  case atStart => exact ⟨0, Nat.zero_le _, rfl, rfl, fun j h => absurd h (by omega)⟩
  case round =>
    obtain ⟨q, hq, rfl, Hwr, HN⟩ := hrel
    have ewr := Hwr.out
    subst ewr
    clear Hwr
    by_cases hlt : q < l.length
    · have hq0 : (0 : Int) ≤ (q : Int) := by omega
      have hq1 : (q : Int) < (l.length : Int) := by omega
      obtain ⟨b1, o1, rfl, hb1, c1⟩ := (HY.out.below HB.out).at_ hlt
      have HLq : Hid (l[q]? = some l[q]) := List.getElem?_eq_getElem hlt
      have HLm : Hid (l[q] ∈ l) := List.getElem_mem hlt
      generalize l[q] = d at *
      by_cases he : d = (c : Int)
      · subst he
        have HIn : Hid (c ∈ sts) := by
          have h := HLm.out
          rw [HLS.out] at h
          obtain ⟨e, he, hce⟩ := List.mem_map.1 h
          obtain rfl : e = c := by omega
          exact he
        clear HLq HLm
        go_wp2
        go_ret
        exact ⟨0, rfl, HB.out, fun _ => rfl, fun h => absurd HIn.out h⟩
      · have hd : (d == (c : Int)) = false := by rw [beq_eq_false_iff_ne]; exact he
        have HN' : Hid (∀ j, j < q + 1 → l[j]? ≠ some (c : Int)) := fun j hj => by
          by_cases e : j = q
          · subst e
            rw [HLq.out]
            exact fun h => he (Option.some.inj h)
          · exact HN.out j (by omega)
        clear HLq HLm
        go_wp2
        go_roundw
        case rel => exact ⟨q + 1, by omega, by go_num, (by first | exact rfl | exact True.intro), HN'.out⟩
        case measure => simp [intOf]; omega
    · have HNo : Hid (c ∉ sts) := fun h => by
        have hm : (c : Int) ∈ l := by rw [HLS.out]; exact List.mem_map.2 ⟨c, h, rfl⟩
        obtain ⟨j, hj, he⟩ := List.getElem_of_mem hm
        exact HN.out j (by omega) (by rw [List.getElem?_eq_getElem hj, he])
      clear HN hq
      obtain ⟨p0, p1, p2, p3⟩ := grid_parts HBB.out
      go_upto_region 8 with (fail)
      obtain ⟨V7, hV7⟩ : ∃ V, W1.alloc (.cells #[.int .i64 g.W, .int .i64 g.H, .int .i64 g.S, .slice (some ⟨b, off, none⟩) g.ss.length k] 24) = V := ⟨_, rfl⟩
      have HB7 : Hid (Below W1.heap.size W1 V7) := by rw [← hV7]; exact (by repeat (first | exact Below.refl _ _ | assumption | refine Below.drew ?_ | refine Below.drewN' ?_ _ | (refine Below.alloc ?_ (by simp <;> omega) _) | (refine Below.setCell ?_ (by simp <;> omega) _)))
      have HK7 : Hid (Blk V7 W1.heap.size 24 #[.int .i64 g.W, .int .i64 g.H, .int .i64 g.S, .slice (some ⟨b, off, none⟩) g.ss.length k]) := by rw [← hV7]; exact Blk.new' _ _ _ rfl
      rw [hV7]
      clear hV7 p0 p1 p2 p3
      have HBV7 := Lib.hid (HB.out.trans (HB7.out.mono HB.out.size))
      have HKg7 := Lib.hid (HBB.out.below HB7.out HBB.out.lt)
      have lk7 : W1.heap.size < V7.heap.size := HK7.out.lt
      have lkg : w.heap.size < V7.heap.size := HKg7.out.lt
      have Hn7 : Hid (∀ j u, (spanCells g.ss)[j]? = some u → (V7.alloc (.cells #[] 34)).cell? ((⟨b, off, none⟩ : Addr).add j) = some u) := fun j u hu => ((HBV7.out.alloc HBV7.out.size _).cell (p := (⟨b, off, none⟩ : Addr).add j) (by unfold Addr.add; split <;> simpa using hb)).trans (Hn.out j u hu)
      have hown0 : (V7.alloc (.cells #[] 34)).ownsRow V7.heap.size 34 2 (.slice (some ⟨V7.heap.size, 0, none⟩) 0 0) 0 [] := by
        have := World.ownsRow_lit (base := V7.heap.size) (e := 34) (size := 2) V7 #[] 0 (by simp) (by decide) rfl
        simpa using this
      have Hown0 := Lib.hid hown0
      clear hown0
      obtain ⟨i0, hi0, hz0, hz1, hz2⟩ := info_parts span_info
      obtain ⟨p0, p1, p2, p3⟩ := grid_parts HKg7.out
      go_upto_region 9 with (at_builtin; ((refine wpList_append_own _ rfl (.tmp 26) (.tmp 28) 22 rfl V7.heap.size 34 i0 (.agg #[.int .i64 0, .int .i64 0]) 2 16 Tryz.underlying22 hi0 hz0 hz1 hz2 rfl (by decide) _ 0 [] rfl Hown0.out ⟨b, off, none⟩ g.ss.length k (spanCells g.ss) rfl (spanCells_length g.ss) Hn7.out (spanCells_one g.ss) (by unfold maxLen; omega) (by omega) (by simp) ?_; intro v8 w8 hown1 hg1 hnil; rw [Nat.zero_add, List.nil_append] at hown1; clear hnil; obtain ⟨gw, cw, rfl, hgb, hgl, hnc⟩ := own_shape hown1 hpos; have H1 := Lib.hid hown1; have hbb := ((Below.refl V7.heap.size V7).alloc (Nat.le_refl _) _).grown hg1 (by simp) (fun k e => (Hown0.out.lt k e).1); have Hb8 := Lib.hid hbb; have HK8 := Lib.hid (HK7.out.below hbb HK7.out.lt); have y3 := HK8.out.cell 3; have f3 := HK8.out.frozen 3; simp only [List.getElem?_toArray, List.getElem?_cons_zero, List.getElem?_cons_succ] at y3; clear hown1 hg1 hbb)))
      obtain ⟨V8, hV8⟩ : ∃ V, w8.setCell ⟨W1.heap.size, 3, none⟩ (.slice (some ⟨gw, 0, none⟩) g.ss.length cw) = V := ⟨_, rfl⟩
      have hgw := (H1.out.lt gw rfl)
      have HB8 : Hid (Below W1.heap.size W1 V8) := by rw [Hid, ← hV8]; exact (HB7.out.trans (Hb8.out.mono HB7.out.size)).setCell (by exact Nat.le_refl _) _
      have HO8 : Hid (V8.ownsRow V7.heap.size 34 2 (.slice (some ⟨gw, 0, none⟩) g.ss.length cw) g.ss.length (spanCells g.ss)) := by
        rw [Hid, ← hV8]
        exact own_set H1.out (fun e => by have : gw = W1.heap.size := Option.some.inj e; omega) _
      have HK8' : Hid (Blk V8 W1.heap.size 24 #[.int .i64 g.W, .int .i64 g.H, .int .i64 g.S, .slice (some ⟨gw, 0, none⟩) g.ss.length cw]) := by rw [Hid, ← hV8]; exact HK8.out.set_ 3 _
      rw [hV8]
      clear hV8 y3 f3 HK8 Hb8 H1 Hown0 Hn7 hi0 hz0 hz1 hz2 p0 p1 p2 p3
      obtain ⟨m1, m2⟩ := own_spans_at HO8.out hc
      have f1 := HO8.out.frozenAt (c * 2)
      have f2 := HO8.out.frozenAt (c * 2 + 1)
      obtain ⟨p0, p1, p2, p3⟩ := grid_parts HK8'.out
      go_upto_region 10 with (fail)
      obtain ⟨V9, hV9⟩ : ∃ V, (V8.setCell ⟨gw, c * 2, none⟩ (.int .i64 1200000)).setCell ⟨gw, c * 2 + 1, none⟩ (.int .i64 1200000) = V := ⟨_, rfl⟩
      have HB9 : Hid (Below W1.heap.size W1 V9) := by rw [Hid, ← hV9]; exact (HB8.out.setCell (by show W1.heap.size ≤ gw; omega) _).setCell (by show W1.heap.size ≤ gw; omega) _
      have HO9 : Hid (V9.ownsRow V7.heap.size 34 2 (.slice (some ⟨gw, 0, none⟩) g.ss.length cw) g.ss.length (spanCells (g.ss.set c (1200000, 1200000)))) := by
        rw [Hid, ← hV9]
        exact own_spans_set HO8.out hc 1200000 1200000
      have HK9 : Hid (Blk V9 W1.heap.size 24 #[.int .i64 g.W, .int .i64 g.H, .int .i64 g.S, .slice (some ⟨gw, 0, none⟩) g.ss.length cw]) := by
        rw [Hid, ← hV9]
        exact (HK8'.out.far_ (p := ⟨gw, c * 2, none⟩) (by show W1.heap.size ≠ gw; omega) _).far_ (p := ⟨gw, c * 2 + 1, none⟩) (by show W1.heap.size ≠ gw; omega) _
      rw [hV9]
      clear hV9 m1 m2 f1 f2 HO8 HK8' HB8 p0 p1 p2 p3
      have HG9 : Hid (GridAt V9 V9.heap.size (.agg #[.int .i64 g.W, .int .i64 g.H, .int .i64 g.S, .slice (some ⟨gw, 0, none⟩) g.ss.length cw]) (wallG g c)) := by
        refine ⟨_, rfl, ?_⟩
        have h := Reads.of_own HO9.out
        have e : (g.ss.set c (1200000, 1200000)).length = g.ss.length := List.length_set ..
        show Reads V9 V9.heap.size 2 _ (g.ss.set c (1200000, 1200000)).length _
        rw [e]
        exact h
      have HBw9 := Lib.hid (HB.out.trans (HB9.out.mono HB.out.size))
      have HKg9 := Lib.hid (HBB.out.below HB9.out HBB.out.lt)
      clear HO9 HB9
      obtain ⟨p0, p1, p2, p3⟩ := grid_parts HK9.out
      go_wp2_with fail
      refine (Sills_any _ _ (wallG g c) l _ HG9.out (HY.out.later HBw9.out (Nat.le_refl _))).mono ?_
      rintro e w10 ⟨v10, ss, rfl, hs10, hb10, hc10⟩
      have HZ : Hid (Sillz (wallG g c) sts ss) := by
        rcases hc10 with ⟨hx, _⟩ | ⟨_, sts', hl', hz⟩
        · exact absurd HSEA.out hx
        · rw [Hid, sts_eq HLS.out, ← sts_eq hl']; exact hz
      rw [HSEA.out]
      have hlen : ss.length = g.ss.length := by
        have := HZ.out.length
        rw [this]
        exact List.length_set ..
      obtain ⟨B10, c10, rfl⟩ := hs10.open_len hlen
      have HS10 := Lib.hid hs10
      have HLn := Lib.hid hlen
      have HB10 := Lib.hid (HBw9.out.trans (hb10.mono HBw9.out.size))
      have HK10 := Lib.hid (HKg9.out.below hb10 HKg9.out.lt)
      have HRg : Hid (∀ c, -1200000 ≤ (ss.getD c (0, 0)).1) := fun d => (HZ.out.low HVw.out HNE.out (fun c hc => by show c < (g.ss.set _ _).length; rw [List.length_set]; exact HST.out c hc) d).1
      clear hs10 hb10 hc10 hlen p0 p1 p2 p3 HK9 HG9 HKg9
      obtain ⟨p0, p1, p2, p3⟩ := grid_parts HK10.out
      go_wp2_with fail
      refine (lnear_any _ g c _ ⟨_, rfl, HS.out.later HB10.out (Nat.le_refl _)⟩ HV.out hc).mono ?_
      rintro e w11 ⟨v11, rfl, hn11, hb11⟩
      obtain ⟨B11, c11, rfl, _, _⟩ := hn11.open_
      have HN11 := Lib.hid hn11
      have HS11 := Lib.hid (HS10.out.later hb11 (Nat.le_refl _))
      have HB11 := Lib.hid (HB10.out.trans (hb11.mono HB10.out.size))
      have HK11 := Lib.hid (HK10.out.below hb11 HK10.out.lt)
      have HNg := Lib.hid (fun q hq => nearP_get HV.out hc (q := q) hq)
      have hnl := nearP_len g c g.ss.length
      clear hn11 hb11 p0 p1 p2 p3 HK10 HS10
      generalize hN1 : nearP g c g.ss.length = N1 at *
      have HNeq := Lib.hid hN1
      clear hN1
      go_wp2_with fail
      go_loopw [12, 56] (fun m j wr => ∃ q : Nat, q ≤ N1.length ∧ j = .int .i64 q ∧ m = .int .i64 (leastF ss (N1.take q)) ∧ Hid (w11 = wr)) (fun _ j _ => N1.length - (intOf j).toNat)
      case atStart => exact ⟨0, Nat.zero_le _, rfl, rfl, rfl⟩
      case round =>
        obtain ⟨q, hq, rfl, rfl, Hwr⟩ := hrel
        have ewr := Hwr.out
        subst ewr
        clear Hwr
        by_cases hlt : q < N1.length
        · have hq0 : (0 : Int) ≤ (q : Int) := by omega
          have hq1 : (q : Int) < (N1.length : Int) := by omega
          obtain ⟨b1, o1, rfl, hb1, c1⟩ := HN11.out.at_ hlt
          obtain ⟨d, hld, hd, _⟩ := HNg.out q hlt
          have HTk : Hid (leastF ss (N1.take (q + 1)) = min (leastF ss (N1.take q)) (loF ss d)) := by
            rw [Hid, take_snoc N1 q hlt, hld]
            unfold leastF
            rw [mnF_snoc]
            rfl
          rw [hld] at c1
          clear hld
          have hd0 : (0 : Int) ≤ (d : Int) := by omega
          have hd1 : (d : Int) < (g.ss.length : Int) := by omega
          obtain ⟨b2, o2, lo, hi, rfl, hb2, e2, c2, c3⟩ := HS11.out.atD (k := d) (by rw [HLn.out]; exact hd)
          have El : Hid (loF ss d = lo) := by rw [Hid, loF, e2]
          rw [El.out] at HTk
          clear e2 c3
          generalize leastF ss (N1.take q) = m0 at *
          go_wp2
          go_roundw
          case rel => exact ⟨q + 1, by omega, by go_num, by rw [HTk.out], (by first | exact rfl | exact True.intro)⟩
          case measure => simp [intOf]; omega
        · have hta : N1.take q = N1 := List.take_of_length_le (by omega)
          rw [hta]
          clear hta hq
          obtain ⟨m1, m2⟩ := leastF_rng HRg.out N1
          obtain ⟨p0, p1, p2, p3⟩ := grid_parts HK11.out
          obtain ⟨b2, o2, lo, hi, e1, hb2, e2, c2, c3⟩ := (HS.out.below HB11.out).atD hc
          injection e1 with e1
          injection e1 with e1 e3
          subst e1 e3
          have hlo := ok_of HV.out hc
          have El : Hid (loF g.ss c = lo) := by rw [Hid, loF, e2]
          rw [El.out] at hlo
          obtain ⟨o1, o2', o3⟩ := hlo
          obtain ⟨m0, hm0⟩ : ∃ m, leastF ss N1 = m := ⟨_, rfl⟩
          have HDq : Hid (∃ ss, Sillz (wallG g c) sts ss ∧ max 0 (m0 - lo) = max 0 (leastF ss (nearP g c g.ss.length) - loF g.ss c)) := ⟨ss, HZ.out, by rw [HNeq.out, El.out, hm0]⟩
          rw [hm0] at m1 m2
          rw [hm0]
          clear e2 c3 hm0 o1 o3
          have o4 : lo ≤ 1200000 := by have h := ok_of HV.out hc; rw [El.out] at h; omega
          go_wp2
          go_ret
          exact ⟨_, rfl, HB11.out, fun h => absurd h HNo.out, fun _ => HDq.out⟩
end Go.Proofs.YthcenmocnphnmaaGreatDoor
/-
  Without any program: what GridTruth asks of each cell.
-/
namespace Go.Proofs.YthcenmocnphnmaaGreatDoor

/-- the least of the neighbors' sills does not depend on the height of the cell between -/
theorem rim_le {g h : G} (_V : Valid g) (Vh : Valid h) (hn : nearL h = nearL g) (hl : h.ss.length = g.ss.length) {sel sel' : Int × Int → Int} {sts : List Nat} {vs us : List Int} {c : Nat} (hc : c < g.ss.length) (hne : sts ≠ []) (hst : ∀ c, c ∈ sts → c < g.ss.length) (hs : c ∉ sts)
    (ha : ∀ d, d ≠ c → hgt h sel' d = hgt g sel d) (S : Silled g sel sts vs) (S' : Silled h sel' sts us) :
    mnF (fun d => val vs d.toNat) 1200000 (nearL g c) ≤ mnF (fun d => val us d.toNat) 1200000 (nearL h c) := by
  refine le_mnF _ _ _ _ (mnF_le _ _ _).1 fun d hd => ?_
  have hd' : d.toNat ∈ (nearL h c).map Int.toNat := List.mem_map.2 ⟨d, hd, rfl⟩
  have hdl := near_lt Vh (by omega) hd'
  obtain ⟨s, hs0⟩ := List.exists_mem_of_ne_nil _ hne
  have hw := S'.way d.toNat (by omega) (way_all Vh hs0 (by have := hst s hs0; omega) (by omega))
  obtain ⟨_, h1⟩ := way_front Vh (a := c) (by omega) hs (fun c hc => by have := hst c hc; omega) hw
  obtain ⟨e, x, he, hx, hwx⟩ : ∃ e x, e ∈ (nearL h c).map Int.toNat ∧ x ≤ val us d.toNat ∧ WayW h (hgt h sel') sts c e x := by
    rcases h1 with ⟨_, h1⟩ | ⟨e, x, h1, h2, h3⟩
    · exact ⟨_, _, hd', Int.le_refl _, h1⟩
    · exact ⟨e, x, h1, h2, h3⟩
  have hwg : WayW g (hgt g sel) sts c e x := by
    have h2 := hwx.congr (ht' := hgt g sel) fun d hd => ha d (by omega)
    unfold WayW nbW at *
    rw [hn] at h2
    exact h2
  have h3 := Best.least (stepH g sel) S hwg.full
  unfold ltUp at h3
  have h3 := of_decide_eq_false h3
  rw [hn] at he
  obtain ⟨i, hi, rfl⟩ := List.mem_map.1 he
  have h4 : mnF (fun d => val vs d.toNat) 1200000 (nearL g c) ≤ val vs i.toNat := (mnF_le (fun d => val vs d.toNat) (nearL g c) 1200000).2 i hi
  show _ ≤ val us d.toNat
  omega
theorem rim_eq {g h : G} (V : Valid g) (Vh : Valid h) (hn : nearL h = nearL g) (hl : h.ss.length = g.ss.length) {sel sel' : Int × Int → Int} {sts : List Nat} {vs us : List Int} {c : Nat} (hc : c < g.ss.length) (hne : sts ≠ []) (hst : ∀ c, c ∈ sts → c < g.ss.length) (hs : c ∉ sts)
    (ha : ∀ d, d ≠ c → hgt h sel' d = hgt g sel d) (S : Silled g sel sts vs) (S' : Silled h sel' sts us) :
    mnF (fun d => val vs d.toNat) 1200000 (nearL g c) = mnF (fun d => val us d.toNat) 1200000 (nearL h c) :=
  Int.le_antisymm (rim_le V Vh hn hl hc hne hst hs ha S S') (rim_le Vh V hn.symm hl.symm (by omega) hne (fun c hc => by have := hst c hc; omega) hs (fun d hd => (ha d hd).symm) S' S)
/-- the least over the same cells -/
theorem mnF_mem {f k : Int → Int} {z : Int} {l m : List Int} (h : ∀ d, d ∈ m → d ∈ l ∧ f d ≤ k d) : mnF f z l ≤ mnF k z m :=
  le_mnF _ _ _ _ (mnF_le _ _ _).1 fun d hd => by
    have h1 := (mnF_le f l z).2 d (h d hd).1
    have h2 := (h d hd).2
    omega
theorem near_mem_iff {g : G} (V : Valid g) {c : Nat} (hc : c < g.ss.length) (z : Int) : z ∈ nearP g c g.ss.length ↔ z ∈ nearL g c := by
  constructor
  · intro h
    obtain ⟨d, rfl, hd⟩ := nearP_nat h
    obtain ⟨e, he, hh⟩ := List.mem_map.1 ((nearP_mem V hc d).1 h)
    have := nearL_rng V hc e he
    obtain rfl : e = (d : Int) := by omega
    exact he
  · intro h
    have hr := nearL_rng V hc z h
    have := (nearP_mem V hc z.toNat).2 (List.mem_map.2 ⟨z, h, rfl⟩)
    rwa [Int.toNat_of_nonneg (by omega)] at this
/-- a cell is wet if its sill lies below the level -/
theorem wet_iff {g h : G} (V : Valid g) (hn : nearL h = nearL g) {sel : Int × Int → Int} {sts : List Nat} {vs : List Int} (hne : sts ≠ []) (hst : ∀ c, c ∈ sts → c < g.ss.length) (ha : ∀ d, loF h.ss d = hgt g sel d) (S : Silled g sel sts vs) {c : Nat} (hc : c < g.ss.length) (lv : Int) :
    WetAt h sts lv c ↔ val vs c < lv := by
  have e : loF h.ss = hgt g sel := funext ha
  unfold WetAt
  rw [hn, e]
  constructor
  · rintro ⟨v, hw, hv⟩
    have h3 := Best.least (stepH g sel) S hw
    unfold ltUp at h3
    have h3 := of_decide_eq_false h3
    omega
  · intro h
    obtain ⟨s, hs0⟩ := List.exists_mem_of_ne_nil _ hne
    exact ⟨_, S.way c hc (way_all V hs0 (hst s hs0) hc), h⟩
/-- grids of points -/
def ptG (g : G) (f : Nat → Int) : G := ⟨g.W, g.H, g.S, (List.range g.ss.length).map fun d => (f d, f d)⟩
theorem pt_len (g : G) (f : Nat → Int) : (ptG g f).ss.length = g.ss.length := by simp [ptG]
theorem pt_get (g : G) (f : Nat → Int) (d : Nat) : (ptG g f).ss.getD d (0, 0) = if d < g.ss.length then (f d, f d) else (0, 0) := by
  rw [List.getD_eq_getElem?_getD]
  by_cases h : d < g.ss.length
  · rw [if_pos h, List.getElem?_eq_getElem (by rw [pt_len]; exact h)]
    simp [ptG]
  · rw [if_neg h, List.getElem?_eq_none (by rw [pt_len]; omega)]
    rfl
theorem pt_ok {g : G} (h : checkE g = 0) {f : Nat → Int} (hf : ∀ d, d < g.ss.length → loF g.ss d ≤ f d ∧ f d ≤ hiF g.ss d) : checkE (ptG g f) = 0 := by
  have V := valid_of h
  have hr : rngG (ptG g f) = true := by
    have := V.w1; have := V.w2; have := V.h1; have := V.h2; have := V.s1; have := V.s2
    unfold rngG ptG
    simp only [decide_eq_true_eq]
    omega
  have ho : (ptG g f).ss.all (okSpan 1200000) = true := by
    rw [List.all_eq_true]
    intro s hs
    obtain ⟨d, hd, rfl⟩ := List.mem_map.1 hs
    have hd := List.mem_range.1 hd
    have h1 := hf d hd
    have h2 := ok_of V hd
    unfold okSpan
    simp only [decide_eq_true_eq]
    omega
  unfold checkE
  rw [if_pos hr, if_pos (by show ((ptG g f).ss.length : Int) = g.W * g.H; rw [pt_len]; exact V.len), if_pos ho]
def deepF (g : G) (c d : Nat) : Int := if d = c then loF g.ss d else hiF g.ss d
def shalF (g : G) (c d : Nat) : Int := if d = c then hiF g.ss d else loF g.ss d
theorem getD_out {ss : List (Int × Int)} {d : Nat} (h : ¬ d < ss.length) : ss.getD d (0, 0) = (0, 0) := by
  rw [List.getD_eq_getElem?_getD, List.getElem?_eq_none (by omega)]
  rfl
theorem lows_at (g : G) (d : Nat) : loF (ptG g (loF g.ss)).ss d = hgt g (fun s => s.1) d := by
  unfold loF hgt
  rw [pt_get]
  split
  · rfl
  · rename_i h; rw [getD_out h]
theorem highs_at (g : G) (d : Nat) : loF (ptG g (hiF g.ss)).ss d = hgt g (fun s => s.2) d := by
  unfold loF hiF hgt
  rw [pt_get]
  split
  · rfl
  · rename_i h; rw [getD_out h]
section
variable {g s : G} {sts : List Nat} {ss bs ps qs : List (Int × Int)}
theorem truth_cell (hg : checkE g = 0) (hs : checkE s = 0) (N : Nrw s g) (hp : ∀ c, c < g.ss.length → loF s.ss c = hiF s.ss c) (hne : sts ≠ []) (hst : ∀ c, c ∈ sts → c < g.ss.length)
    (A : Sillz g sts ss) (B : Sillz s sts bs) (P : PondZ g sts ps) (Q : PondZ s sts qs) {c : Nat} (hc : c < g.ss.length) :
    withinB (bs.getD c (0, 0)) (ss.getD c (0, 0)) = true ∧ (bs.getD c (0, 0)).1 = (bs.getD c (0, 0)).2 ∧ withinB (qs.getD c (0, 0)) (ps.getD c (0, 0)) = true ∧ (qs.getD c (0, 0)).1 = (qs.getD c (0, 0)).2 := by
  have V := valid_of hg
  have V' := valid_of hs
  have e1 := N.len
  have hst' : ∀ c, c ∈ sts → c < s.ss.length := fun c hc => by have := hst c hc; omega
  have m := A.mono N V hne hst B hc
  have o := B.ord V' hne hst' (c := c) (by omega)
  have key : ∀ {ts : List (Int × Int)}, Sillz s sts ts → ∀ d, d < g.ss.length → loF ts d = hiF ts d := by
    intro ts T d hd
    obtain ⟨lo, hi, h1, h2, h3⟩ := T.ends
    rw [(h3 d (by omega)).1, (h3 d (by omega)).2]
    have a1 := Silled.mono V' rfl rfl hne hst' (fun c hc => by show loF s.ss c ≤ hiF s.ss c; rw [hp c (by omega)]; omega) h1 h2 (c := d) (by omega)
    have a2 := Silled.mono V' rfl rfl hne hst' (fun c hc => by show hiF s.ss c ≤ loF s.ss c; rw [hp c (by omega)]; omega) h2 h1 (c := d) (by omega)
    omega
  obtain ⟨s1, z1, q1⟩ := P.get
  obtain ⟨s2, z2, q2⟩ := Q.get
  refine ⟨withinB_of m.1 m.2 o, key B c hc, ?_, ?_⟩
  · rw [q1 c hc, q2 c (by omega)]
    exact pond_mono N V V' hne hst z1 z2 hc
  · rw [q2 c (by omega)]
    unfold pondAt
    split
    · rfl
    · have e2 : mnL (fun s => s.1) s2 (nearL s c) = mnL (fun s => s.2) s2 (nearL s c) := by
        have h1 := mnL_mono (f := fun s => s.1) (k := fun s => s.2) (ss := s2) (ts := s2) (nearL s c) (fun d hd => by
          have := nearL_rng V' (by omega) d hd
          have := key z2 d.toNat (by omega)
          unfold loF hiF at this
          omega)
        have h2 := mnL_mono (f := fun s => s.2) (k := fun s => s.1) (ss := s2) (ts := s2) (nearL s c) (fun d hd => by
          have := nearL_rng V' (by omega) d hd
          have := key z2 d.toNat (by omega)
          unfold loF hiF at this
          omega)
        omega
      have e3 := hp c hc
      unfold loF hiF at e3
      show max 0 _ = max 0 _
      rw [e2, e3]
theorem truth_wet (hg : checkE g = 0) (hs : checkE s = 0) (N : Nrw s g) (hne : sts ≠ []) (hst : ∀ c, c ∈ sts → c < g.ss.length)
    (B : Sillz s sts bs) {lo hi : Int} {sure may : List Bool} (F : FloodZ g sts lo hi sure may) {x : Int} (h1 : lo ≤ x) (h2 : x ≤ hi) {c : Nat} (hc : c < g.ss.length) {is : Bool} (hw : is = true ↔ WetAt s sts x c) :
    (sure.getD c false = true → is = true) ∧ (is = true → may.getD c false = true) ∧ is = decide (loF bs c < x) := by
  have V := valid_of hg
  have V' := valid_of hs
  have e1 := N.len
  have hst' : ∀ c, c ∈ sts → c < s.ss.length := fun c hc => by have := hst c hc; omega
  obtain ⟨vlo, vhi, S1, S2, S3⟩ := B.ends
  have hwi := wet_iff V' rfl (sel := fun s => s.1) hne hst' (fun d => rfl) S1 (c := c) (by omega) x
  rw [← (S3 c (by omega)).1] at hwi
  have his : is = decide (loF bs c < x) := by
    cases is
    · symm
      rw [decide_eq_false_iff_not]
      intro h
      exact absurd (hw.2 (hwi.2 h)) (by simp)
    · symm
      rw [decide_eq_true_eq]
      exact hwi.1 (hw.1 rfl)
  obtain ⟨s3, z3, q3⟩ := F.get
  have m := z3.mono N V hne hst B hc
  have o := B.ord V' hne hst' (c := c) (by omega)
  rw [(q3 c hc).1, (q3 c hc).2, his]
  simp only [decide_eq_true_eq]
  refine ⟨fun h => by omega, fun h => by omega, trivial⟩
theorem truth_flips (hg : checkE g = 0) (hne : sts ≠ []) (hst : ∀ c, c ∈ sts → c < g.ss.length) (A : Sillz g sts ss) {c : Nat} (hc : c < g.ss.length) :
    ¬ WetAt (ptG g (loF g.ss)) sts (loF ss c) c ∧ WetAt (ptG g (loF g.ss)) sts (loF ss c + 1) c ∧ ¬ WetAt (ptG g (hiF g.ss)) sts (hiF ss c) c ∧ WetAt (ptG g (hiF g.ss)) sts (hiF ss c + 1) c := by
  have V := valid_of hg
  obtain ⟨vlo, vhi, S1, S2, S3⟩ := A.ends
  rw [(S3 c hc).1, (S3 c hc).2]
  refine ⟨?_, ?_, ?_, ?_⟩
  · rw [wet_iff (h := ptG g (loF g.ss)) V rfl hne hst (lows_at g) S1 hc]; omega
  · rw [wet_iff (h := ptG g (loF g.ss)) V rfl hne hst (lows_at g) S1 hc]; omega
  · rw [wet_iff (h := ptG g (hiF g.ss)) V rfl hne hst (highs_at g) S2 hc]; omega
  · rw [wet_iff (h := ptG g (hiF g.ss)) V rfl hne hst (highs_at g) S2 hc]; omega
theorem truth_least (hg : checkE g = 0) (hne : sts ≠ []) (hst : ∀ c, c ∈ sts → c < g.ss.length) {c : Nat} (hc : c < g.ss.length) (hs : c ∉ sts) {f : Nat → Int} {sel : Int × Int → Int} (hf : ∀ d, d < g.ss.length → loF g.ss d ≤ f d ∧ f d ≤ hiF g.ss d)
    (ha : ∀ d, d < g.ss.length → d ≠ c → f d = hgt g sel d) (h0 : sel (0, 0) = 0) {vs : List Int} (S : Silled g sel sts vs) {sw : List (Int × Int)} (W : Sillz (wallG (ptG g f) c) sts sw) :
    leastF sw (nearP (ptG g f) c (ptG g f).ss.length) = mnF (fun d => val vs d.toNat) 1200000 (nearL g c) := by
  have V := valid_of hg
  have hp := pt_ok hg hf
  have Vp := valid_of hp
  have Vw := valid_of (wall_ok hp c)
  obtain ⟨vlo, vhi, S1, S2, S3⟩ := W.ends
  have hlw : (wallG (ptG g f) c).ss.length = g.ss.length := by show ((ptG g f).ss.set c _).length = _; rw [List.length_set, pt_len]
  have hag : ∀ d, d ≠ c → hgt (wallG (ptG g f) c) (fun s => s.1) d = hgt g sel d := by
    intro d hd
    unfold hgt
    have e : (wallG (ptG g f) c).ss.getD d (0, 0) = (ptG g f).ss.getD d (0, 0) := by
      show ((ptG g f).ss.set c _).getD d (0, 0) = _
      rw [List.getD_eq_getElem?_getD, List.getD_eq_getElem?_getD, List.getElem?_set_ne (by omega)]
    rw [e, pt_get]
    by_cases hl : d < g.ss.length
    · rw [if_pos hl]
      exact ha d hl hd
    · rw [if_neg hl, getD_out hl, h0]
  have hr := rim_eq V Vw rfl hlw hc hne hst hs hag S S1
  rw [hr]
  have hcp : c < (ptG g f).ss.length := by rw [pt_len]; exact hc
  have hval : ∀ d, d ∈ nearL (wallG (ptG g f) c) c → loF sw d.toNat = val vlo d.toNat := fun d hd => by
    have := nearL_rng Vw (by omega) d hd
    exact (S3 d.toNat (by omega)).1
  refine Int.le_antisymm (mnF_mem fun d hd => ?_) (mnF_mem fun d hd => ?_)
  · exact ⟨(near_mem_iff Vp hcp d).2 hd, Int.le_of_eq (hval d hd)⟩
  · have hd' : d ∈ nearL (wallG (ptG g f) c) c := (near_mem_iff Vp hcp d).1 hd
    exact ⟨hd', Int.le_of_eq (hval d hd').symm⟩
theorem mnL_mnF {k : Int × Int → Int} {vs : List Int} (V : Valid g) {c : Nat} (hc : c < g.ss.length) (h : ∀ d, d < g.ss.length → k (ss.getD d (0, 0)) = val vs d) : mnL k ss (nearL g c) = mnF (fun d => val vs d.toNat) 1200000 (nearL g c) := by
  have e : mnL k ss (nearL g c) = mnF (fun d => k (ss.getD d.toNat (0, 0))) 1200000 (nearL g c) := rfl
  rw [e]
  refine Int.le_antisymm (mnF_mem fun d hd => ⟨hd, ?_⟩) (mnF_mem fun d hd => ⟨hd, ?_⟩)
  · have := nearL_rng V hc d hd
    exact Int.le_of_eq (h d.toNat (by omega))
  · have := nearL_rng V hc d hd
    exact Int.le_of_eq (h d.toNat (by omega)).symm
theorem truth_deep (hg : checkE g = 0) (hne : sts ≠ []) (hst : ∀ c, c ∈ sts → c < g.ss.length) (P : PondZ g sts ps) {c : Nat} (hc : c < g.ss.length) {dv : Int} (h1 : c ∈ sts → dv = 0)
    (h2 : c ∉ sts → ∃ sw, Sillz (wallG (ptG g (deepF g c)) c) sts sw ∧ dv = max 0 (leastF sw (nearP (ptG g (deepF g c)) c (ptG g (deepF g c)).ss.length) - loF (ptG g (deepF g c)).ss c)) : dv = (ps.getD c (0, 0)).2 := by
  have V := valid_of hg
  obtain ⟨s1, z1, q1⟩ := P.get
  rw [q1 c hc]
  unfold pondAt
  by_cases hs : c ∈ sts
  · rw [if_pos hs, h1 hs]
  · rw [if_neg hs]
    obtain ⟨sw, W, rfl⟩ := h2 hs
    obtain ⟨vlo, vhi, S1, S2, S3⟩ := z1.ends
    have hf : ∀ d, d < g.ss.length → loF g.ss d ≤ deepF g c d ∧ deepF g c d ≤ hiF g.ss d := fun d hd => by have := V.ord hd; unfold deepF; split <;> omega
    rw [truth_least hg hne hst hc hs hf (sel := fun s => s.2) (fun d _ hd => by unfold deepF; rw [if_neg hd]; rfl) rfl S2 W]
    rw [mnL_mnF (k := fun s => s.2) (vs := vhi) V hc (fun d hd => (S3 d hd).2)]
    have e : loF (ptG g (deepF g c)).ss c = loF g.ss c := by
      show ((ptG g (deepF g c)).ss.getD c (0, 0)).1 = _
      rw [pt_get, if_pos hc]
      show deepF g c c = _
      unfold deepF
      rw [if_pos rfl]
    rw [e]
    rfl
theorem truth_shal (hg : checkE g = 0) (hne : sts ≠ []) (hst : ∀ c, c ∈ sts → c < g.ss.length) (P : PondZ g sts ps) {c : Nat} (hc : c < g.ss.length) {dv : Int} (h1 : c ∈ sts → dv = 0)
    (h2 : c ∉ sts → ∃ sw, Sillz (wallG (ptG g (shalF g c)) c) sts sw ∧ dv = max 0 (leastF sw (nearP (ptG g (shalF g c)) c (ptG g (shalF g c)).ss.length) - loF (ptG g (shalF g c)).ss c)) : dv = (ps.getD c (0, 0)).1 := by
  have V := valid_of hg
  obtain ⟨s1, z1, q1⟩ := P.get
  rw [q1 c hc]
  unfold pondAt
  by_cases hs : c ∈ sts
  · rw [if_pos hs, h1 hs]
  · rw [if_neg hs]
    obtain ⟨sw, W, rfl⟩ := h2 hs
    obtain ⟨vlo, vhi, S1, S2, S3⟩ := z1.ends
    have hf : ∀ d, d < g.ss.length → loF g.ss d ≤ shalF g c d ∧ shalF g c d ≤ hiF g.ss d := fun d hd => by have := V.ord hd; unfold shalF; split <;> omega
    rw [truth_least hg hne hst hc hs hf (sel := fun s => s.1) (fun d _ hd => by unfold shalF; rw [if_neg hd]; rfl) rfl S1 W]
    rw [mnL_mnF (k := fun s => s.1) (vs := vlo) V hc (fun d hd => (S3 d hd).1)]
    have e : loF (ptG g (shalF g c)).ss c = hiF g.ss c := by
      show ((ptG g (shalF g c)).ss.getD c (0, 0)).1 = _
      rw [pt_get, if_pos hc]
      show shalF g c c = _
      unfold shalF
      rw [if_pos rfl]
    rw [e]
    rfl
end
end Go.Proofs.YthcenmocnphnmaaGreatDoor
/-
  Four grids that are being made in one world: their boxes, and their rows of points.
-/
namespace Go.Proofs.YthcenmocnphnmaaGreatDoor
open Go.RowKit Go.Shelf

def upd {α : Type} (f : Nat → α) (i : Nat) (a : α) : Nat → α := fun j => if j = i then a else f j
theorem upd_same {α : Type} (f : Nat → α) (i : Nat) (a : α) : upd f i a i = a := by unfold upd; rw [if_pos rfl]
theorem upd_ne {α : Type} (f : Nat → α) {i j : Nat} (a : α) (h : j ≠ i) : upd f i a j = f j := by unfold upd; rw [if_neg h]
theorem blk_grown4 {w w' : World} {row : Option Nat} {b t : Nat} {cs : Array Value} (h : Blk w b t cs) (hg : w.grownBy w' row) (hne : some b ≠ row) : Blk w' b t cs := by
  have hl := h.lt
  unfold Blk at *
  rw [hg.block b hl hne]
  exact h
structure R4 (w13 w : World) (g : G) (b : Nat → Nat) (v u : Nat → Value) (ss : Nat → List (Int × Int)) : Prop where
  inj : ∀ i j, i < 4 → j < 4 → i ≠ j → b i ≠ b j
  ge : ∀ i, i < 4 → w13.heap.size ≤ b i
  own : ∀ i, i < 4 → w.ownsRow w13.heap.size 34 2 (v i) (ss i).length (spanCells (ss i))
  blk : ∀ i, i < 4 → Blk w (b i) 24 #[.int .i64 g.W, .int .i64 g.H, .int .i64 g.S, u i]
  ne : ∀ i j, i < 4 → j < 4 → i ≠ j → (v i).ownBlock = none ∨ (v i).ownBlock ≠ (v j).ownBlock
  bel : Below w13.heap.size w13 w
section
variable {w13 w w' w1 : World} {g : G} {b : Nat → Nat} {v u : Nat → Value} {ss : Nat → List (Int × Int)}
theorem R4.below (h : R4 w13 w g b v u ss) (hb : Below w.heap.size w w') : R4 w13 w' g b v u ss :=
  ⟨h.inj, h.ge, fun i hi => own_below (h.own i hi) hb (Nat.le_refl _), fun i hi => (h.blk i hi).below hb (h.blk i hi).lt, h.ne, h.bel.trans (hb.mono h.bel.size)⟩
theorem R4.app (h : R4 w13 w g b v u ss) {i n : Nat} (hi : i < 4) {x : Int × Int} {v1 : Value} (hn : n = (ss i).length) (ho : w1.ownsRow w13.heap.size 34 2 v1 (n + 1) (spanCells (ss i) ++ [.int .i64 x.1, .int .i64 x.2])) (hg : w.grownBy w1 (v i).ownBlock)
    (hat : v1.ownBlock = (v i).ownBlock ∨ v1.ownBlock = some w.heap.size) : R4 w13 w1 g b (upd v i v1) u (upd ss i (ss i ++ [x])) := by
  subst hn
  refine ⟨h.inj, h.ge, fun j hj => ?_, fun j hj => ?_, fun j k hj hk hjk => ?_, ?_⟩
  · by_cases e : j = i
    · subst e
      rw [upd_same, upd_same, List.length_append, spanCells_append]
      exact ho
    · rw [upd_ne v v1 e, upd_ne ss _ e]
      exact (h.own j hj).kept hg (h.ne j i hj hi e)
  · exact blk_grown4 (h.blk j hj) hg (fun e => own_blk_ne (h.own i hi) (h.blk j hj) (by decide) e.symm)
  · by_cases e : j = i
    · subst e
      rw [upd_same, upd_ne v v1 (Ne.symm hjk)]
      rcases hat with e | e
      · rw [e]; exact h.ne j k hj hk hjk
      · right
        rw [e]
        intro e2
        have := ((h.own k hk).lt _ e2.symm).2
        omega
    · rw [upd_ne v v1 e]
      by_cases e2 : k = i
      · subst e2
        rw [upd_same]
        rcases hat with e3 | e3
        · rw [e3]; exact h.ne j k hj hk hjk
        · right
          rw [e3]
          intro e4
          have := ((h.own j hj).lt _ e4).2
          omega
      · rw [upd_ne v v1 e2]
        exact h.ne j k hj hk hjk
  · exact h.bel.grown hg h.bel.size (fun k e => ((h.own i hi).lt k e).1)
theorem R4.store (h : R4 w13 w g b v u ss) {i : Nat} (hi : i < 4) : R4 w13 (w.setCell ⟨b i, 3, none⟩ (v i)) g b v (upd u i (v i)) ss := by
  refine ⟨h.inj, h.ge, fun j hj => ?_, fun j hj => ?_, h.ne, h.bel.setCell (by exact h.ge i hi) _⟩
  · exact own_set (h.own j hj) (own_blk_ne (h.own j hj) (h.blk i hi) (by decide)) _
  · by_cases e : j = i
    · subst e
      rw [upd_same]
      exact (h.blk j hj).set_ 3 _
    · rw [upd_ne u _ e]
      exact (h.blk j hj).far_ (p := ⟨b i, 3, none⟩) (h.inj j i hj hi e) _
theorem R4.grid (h : R4 w13 w g b v u ss) {i : Nat} (hi : i < 4) {T : G} (hW : T.W = g.W) (hH : T.H = g.H) (hS : T.S = g.S) (hs : ss i = T.ss) : GridAt w w.heap.size (.agg #[.int .i64 g.W, .int .i64 g.H, .int .i64 g.S, v i]) T := by
  refine ⟨v i, by rw [hW, hH, hS], ?_⟩
  have k := Reads.of_own (h.own i hi)
  rw [hs] at k
  exact k
theorem R4.congr (h : R4 w13 w g b v u ss) {v' u' : Nat → Value} {ss' : Nat → List (Int × Int)} (hv : ∀ i, i < 4 → v i = v' i) (hu : ∀ i, i < 4 → u i = u' i) (hs : ∀ i, i < 4 → ss i = ss' i) : R4 w13 w g b v' u' ss' :=
  ⟨h.inj, h.ge, fun i hi => by rw [← hv i hi, ← hs i hi]; exact h.own i hi, fun i hi => by rw [← hu i hi]; exact h.blk i hi, fun i j hi hj hij => by rw [← hv i hi, ← hv j hj]; exact h.ne i j hi hj hij, h.bel⟩
theorem R4.start {z : Value} (hblk : ∀ i, i < 4 → Blk w (b i) 24 #[.int .i64 g.W, .int .i64 g.H, .int .i64 g.S, z]) (hinj : ∀ i j, i < 4 → j < 4 → i ≠ j → b i ≠ b j) (hge : ∀ i, i < 4 → w13.heap.size ≤ b i) (hb : Below w13.heap.size w13 w) :
    R4 w13 ((((w.setCell ⟨b 0, 3, none⟩ (.slice none 0 0)).setCell ⟨b 1, 3, none⟩ (.slice none 0 0)).setCell ⟨b 2, 3, none⟩ (.slice none 0 0)).setCell ⟨b 3, 3, none⟩ (.slice none 0 0)) g b (fun _ => .slice none 0 0) (fun _ => .slice none 0 0) (fun _ => []) := by
  have h0 : R4 w13 w g b (fun _ => .slice none 0 0) (fun _ => z) (fun _ => []) := ⟨hinj, hge, fun _ _ => World.ownsRow_nil _ _ _ _, hblk, fun _ _ _ _ _ => .inl rfl, hb⟩
  have h1 := (((h0.store (i := 0) (by omega)).store (i := 1) (by omega)).store (i := 2) (by omega)).store (i := 3) (by omega)
  refine h1.congr (fun _ _ => rfl) (fun i hi => ?_) (fun _ _ => rfl)
  obtain rfl | rfl | rfl | rfl : i = 0 ∨ i = 1 ∨ i = 2 ∨ i = 3 := by omega
  all_goals (unfold upd; simp)
def ptF (g : G) (c i d : Nat) : Int := if i = 0 then loF g.ss d else if i = 1 then hiF g.ss d else if i = 2 then deepF g c d else shalF g c d
def ptL (g : G) (c q i : Nat) : List (Int × Int) := (List.range q).map fun d => (ptF g c i d, ptF g c i d)
theorem ptL_next (g : G) (c q i : Nat) : ptL g c (q + 1) i = ptL g c q i ++ [(ptF g c i q, ptF g c i q)] := by
  unfold ptL
  rw [List.range_succ, List.map_append]
  rfl
theorem ptL_len (g : G) (c q i : Nat) : (ptL g c q i).length = q := by simp [ptL]
theorem ptL_all (g : G) (c i : Nat) : ptL g c g.ss.length i = (ptG g (ptF g c i)).ss := rfl
/-- a round of the loop: two rows more in the boxes -/
theorem R4.two (h : R4 w13 w g b v u ss) {i j : Nat} (hi : i < 4) (hj : j < 4) : R4 w13 ((w.setCell ⟨b i, 3, none⟩ (v i)).setCell ⟨b j, 3, none⟩ (v j)) g b v (upd (upd u i (v i)) j (v j)) ss :=
  (h.store hi).store hj
end
end Go.Proofs.YthcenmocnphnmaaGreatDoor
/-
  flips and depth of the four grids of a cell, as the walk of GridTruth calls them.
-/
namespace Go.Proofs.YthcenmocnphnmaaGreatDoor
open Go.RowKit Go.Shelf

theorem pt_rngF {g : G} (V : Valid g) (c i : Nat) : ∀ d, d < g.ss.length → loF g.ss d ≤ ptF g c i d ∧ ptF g c i d ≤ hiF g.ss d := by
  intro d hd
  have h := V.ord hd
  have h : loF g.ss d ≤ hiF g.ss d := h
  unfold ptF deepF shalF
  repeat' split
  all_goals omega
theorem hgt_high {g : G} {f : FuncId} {sel : Int × Int → Int} (hE : IsEnd f sel) (V : Valid g) (d : Nat) : hgt g sel d ≤ 1200000 := by
  by_cases hd : d < g.ss.length
  · exact (hgt_acc hE V hd).2
  · unfold hgt
    rw [List.getD_eq_getElem?_getD, List.getElem?_eq_none (by omega)]
    rcases hE with ⟨_, rfl⟩ | ⟨_, rfl⟩ <;> decide
theorem way_high {g : G} {f : FuncId} {sel : Int × Int → Int} (hE : IsEnd f sel) (V : Valid g) {sts : List Nat} {c : Nat} {v : Int} (h : Way (fun c => (nearL g c).map Int.toNat) sts (hgt g sel) (fun v d => max v (hgt g sel d)) c v) : v ≤ 1200000 := by
  induction h with
  | start hc => exact hgt_high hE V _
  | @step _ d _ hw hd ih =>
    have := hgt_high hE V d
    omega
theorem Silled.high {g : G} {f : FuncId} {sel : Int × Int → Int} (hE : IsEnd f sel) (V : Valid g) {sts : List Nat} {vs : List Int} (hne : sts ≠ []) (hst : ∀ c, c ∈ sts → c < g.ss.length) (h : Silled g sel sts vs) {c : Nat} (hc : c < g.ss.length) : val vs c ≤ 1200000 := by
  obtain ⟨s, hs⟩ := List.exists_mem_of_ne_nil _ hne
  exact way_high hE V (h.way c hc (way_all V hs (hst s hs) hc))
theorem Sillz.rng {g : G} (V : Valid g) {sts : List Nat} {ss : List (Int × Int)} (hne : sts ≠ []) (hst : ∀ c, c ∈ sts → c < g.ss.length) (h : Sillz g sts ss) {c : Nat} (hc : c < g.ss.length) : -2000000 ≤ loF ss c ∧ loF ss c ≤ 2000000 ∧ -2000000 ≤ hiF ss c ∧ hiF ss c ≤ 2000000 := by
  obtain ⟨lo, hi, h1, h2, h3⟩ := h.ends
  obtain ⟨e1, e2⟩ := h3 c hc
  have a := h1.low (.inl ⟨rfl, rfl⟩) V hne hst c
  have b := h2.low (.inr ⟨rfl, rfl⟩) V hne hst c
  have a' := h1.high (.inl ⟨rfl, rfl⟩) V hne hst hc
  have b' := h2.high (.inr ⟨rfl, rfl⟩) V hne hst hc
  omega
section
variable {w13 wq : World} {g : G} {b : Nat → Nat} {v : Nat → Value} {y : Value} {l : List Int} {sts : List Nat} {ss ps : List (Int × Int)} {c : Nat}
theorem flips_k (R : R4 w13 wq g b v v (ptL g c g.ss.length)) (i : Nat) (hi : i < 2) (hck : checkE g = 0) (hy : IntsAt wq wq.heap.size y l) (hls : l = sts.map fun (c : Nat) => (c : Int)) (hst : ∀ c ∈ sts, c < g.ss.length) (hne : sts ≠ []) (hll : l.length ≤ 65536) (hc : c < g.ss.length)
    (A : Sillz g sts ss) {lv : Int} (h0 : i = 0 → loF ss c = lv) (h1 : i = 1 → hiF ss c = lv) (hr : -2000000 ≤ lv ∧ lv ≤ 2000000) (W : World) (hW : Below wq.heap.size wq W) :
    Calls Tryz.prog 44 #[.agg #[.int .i64 g.W, .int .i64 g.H, .int .i64 g.S, v i], y, .int .i64 c, .int .i64 lv] W fun e w' => e = .returned (.bool true) ∧ Below wq.heap.size wq w' := by
  have hg := (R.below hW).grid (i := i) (by omega) (T := ptG g (ptF g c i)) rfl rfl rfl rfl
  have f := truth_flips hck hne hst A hc
  have V := valid_of (pt_ok hck (pt_rngF (valid_of hck) c i))
  have h : ¬ WetAt (ptG g (ptF g c i)) sts lv c ∧ WetAt (ptG g (ptF g c i)) sts (lv + 1) c := by
    obtain rfl | rfl : i = 0 ∨ i = 1 := by omega
    · rw [← h0 rfl]; exact ⟨f.1, f.2.1⟩
    · rw [← h1 rfl]; exact ⟨f.2.2.1, f.2.2.2⟩
  exact (flips_yes _ _ _ l sts lv c W hg (hy.later hW (Nat.le_refl _)) V hls (by rw [pt_len]; exact hst) hll (by rw [pt_len]; exact hc) hr h.1 h.2).mono fun _ _ k => ⟨k.1, hW.trans (k.2.mono hW.size)⟩
theorem depth_k (R : R4 w13 wq g b v v (ptL g c g.ss.length)) (i : Nat) (hi : i = 2 ∨ i = 3) (hck : checkE g = 0) (hy : IntsAt wq wq.heap.size y l) (hls : l = sts.map fun (c : Nat) => (c : Int)) (hst : ∀ c ∈ sts, c < g.ss.length) (hne : sts ≠ []) (hll : l.length ≤ 65536) (hc : c < g.ss.length)
    (hsea : ∀ h : G, checkE h = 0 → h.ss.length = g.ss.length → seaE h l = 0) (P : PondZ g sts ps) {dp : Int} (h2 : i = 2 → (ps.getD c (0, 0)).2 = dp) (h3 : i = 3 → (ps.getD c (0, 0)).1 = dp) (W : World) (hW : Below wq.heap.size wq W) :
    Calls Tryz.prog 45 #[.agg #[.int .i64 g.W, .int .i64 g.H, .int .i64 g.S, v i], y, .int .i64 c] W fun e w' => e = .returned (.int .i64 dp) ∧ Below wq.heap.size wq w' := by
  have hg := (R.below hW).grid (i := i) (by omega) (T := ptG g (ptF g c i)) rfl rfl rfl rfl
  refine (depth_any _ _ (ptG g (ptF g c i)) l sts c W hg (hy.later hW (Nat.le_refl _)) (pt_ok hck (pt_rngF (valid_of hck) c i)) hls (by rw [pt_len]; exact hst) hne hll (by rw [pt_len]; exact hc) (hsea _ (wall_ok (pt_ok hck (pt_rngF (valid_of hck) c i)) c) (by show ((ptG g (ptF g c i)).ss.set c (1200000, 1200000)).length = _; rw [List.length_set, pt_len]))).mono ?_
  rintro e w' ⟨dv, rfl, hb, k1, k2⟩
  refine ⟨?_, hW.trans (hb.mono hW.size)⟩
  obtain rfl | rfl := hi
  · rw [truth_deep hck hne hst P hc k1 k2, h2 rfl]
  · rw [truth_shal hck hne hst P hc k1 k2, h3 rfl]
end
end Go.Proofs.YthcenmocnphnmaaGreatDoor
/-
  Four grids that are being made in one world, and the two boxes of a cell's spans: two rows of points that grow in one region.
-/
namespace Go.Proofs.YthcenmocnphnmaaGreatDoor
open Go.RowKit Go.Shelf

theorem lit_at2 (w : World) (o p : Obj) : ((w.alloc o).alloc p).heap[w.heap.size + 1]? = some p := by
  have e : (w.alloc o).heap.size = w.heap.size + 1 := by simp
  have := heap_alloc_new (w.alloc o) p
  rw [e] at this
  exact this
theorem blk_blk_ne {w : World} {b1 b2 t1 t2 : Nat} {c1 c2 : Array Value} (h1 : Blk w b1 t1 c1) (h2 : Blk w b2 t2 c2) (hne : t1 ≠ t2) : b1 ≠ b2 := by
  intro e
  subst e
  unfold Blk at *
  rw [h1] at h2
  injection h2 with h2
  injection h2 with _ ht
  exact hne ht
structure RB (w13 w : World) (g : G) (b : Nat → Nat) (v u : Nat → Value) (ss : Nat → List (Int × Int)) (b1 b2 : Nat) (x y : Int) : Prop where
  r : R4 w13 w g b v u ss
  k1 : Blk w b1 34 #[.int .i64 x, .int .i64 x]
  k2 : Blk w b2 34 #[.int .i64 y, .int .i64 y]
  ne : b1 ≠ b2
  sep : ∀ i, i < 4 → (v i).ownBlock ≠ some b1 ∧ (v i).ownBlock ≠ some b2
section
variable {w13 w w' w1 : World} {g : G} {b : Nat → Nat} {v u : Nat → Value} {ss : Nat → List (Int × Int)} {b1 b2 : Nat} {x y : Int}
theorem RB.n1 (h : RB w13 w g b v u ss b1 b2 x y) : ∀ i, i < 4 → b i ≠ b1 := fun i hi => blk_blk_ne (h.r.blk i hi) h.k1 (by decide)
theorem RB.n2 (h : RB w13 w g b v u ss b1 b2 x y) : ∀ i, i < 4 → b i ≠ b2 := fun i hi => blk_blk_ne (h.r.blk i hi) h.k2 (by decide)
theorem RB.start {wq : World} (h : R4 w13 wq g b v u ss) (hb : Below wq.heap.size wq w) (h1 : Blk w b1 34 #[.int .i64 x, .int .i64 x]) (h2 : Blk w b2 34 #[.int .i64 y, .int .i64 y]) (hne : b1 ≠ b2) (g1 : wq.heap.size ≤ b1) (g2 : wq.heap.size ≤ b2) : RB w13 w g b v u ss b1 b2 x y :=
  ⟨h.below hb, h1, h2, hne, fun i hi => ⟨fun e => by have := ((h.own i hi).lt _ e).2; omega, fun e => by have := ((h.own i hi).lt _ e).2; omega⟩⟩
theorem RB.below (h : RB w13 w g b v u ss b1 b2 x y) (hb : Below w.heap.size w w') : RB w13 w' g b v u ss b1 b2 x y :=
  ⟨h.r.below hb, h.k1.below hb h.k1.lt, h.k2.below hb h.k2.lt, h.ne, h.sep⟩
theorem RB.app (h : RB w13 w g b v u ss b1 b2 x y) {i n : Nat} (hi : i < 4) {s : Int × Int} {v1 : Value} (hn : n = (ss i).length) (ho : w1.ownsRow w13.heap.size 34 2 v1 (n + 1) (spanCells (ss i) ++ [.int .i64 s.1, .int .i64 s.2])) (hg : w.grownBy w1 (v i).ownBlock)
    (hat : v1.ownBlock = (v i).ownBlock ∨ v1.ownBlock = some w.heap.size) : RB w13 w1 g b (upd v i v1) u (upd ss i (ss i ++ [s])) b1 b2 x y := by
  have l1 := h.k1.lt
  have l2 := h.k2.lt
  refine ⟨h.r.app hi hn ho hg hat, blk_grown4 h.k1 hg (Ne.symm (h.sep i hi).1), blk_grown4 h.k2 hg (Ne.symm (h.sep i hi).2), h.ne, fun j hj => ?_⟩
  by_cases e : j = i
  · subst e
    rw [upd_same]
    rcases hat with e | e
    · rw [e]; exact h.sep j hj
    · rw [e]
      exact ⟨fun e => by injection e; omega, fun e => by injection e; omega⟩
  · rw [upd_ne v v1 e]
    exact h.sep j hj
theorem RB.store (h : RB w13 w g b v u ss b1 b2 x y) {i : Nat} (hi : i < 4) : RB w13 (w.setCell ⟨b i, 3, none⟩ (v i)) g b v (upd u i (v i)) ss b1 b2 x y :=
  ⟨h.r.store hi, h.k1.far_ (p := ⟨b i, 3, none⟩) (Ne.symm (h.n1 i hi)) _, h.k2.far_ (p := ⟨b i, 3, none⟩) (Ne.symm (h.n2 i hi)) _, h.ne, h.sep⟩
theorem R4.span (h : R4 w13 w g b v u ss) {k : Nat} {cs : Array Value} (hk : Blk w k 34 cs) (hn : w13.heap.size ≤ k) (hs : ∀ i, i < 4 → (v i).ownBlock ≠ some k) (n : Nat) (z : Value) : R4 w13 (w.setCell ⟨k, n, none⟩ z) g b v u ss :=
  ⟨h.inj, h.ge, fun i hi => own_set (h.own i hi) (hs i hi) z, fun i hi => (h.blk i hi).far_ (p := ⟨k, n, none⟩) (blk_blk_ne (h.blk i hi) hk (by decide)) z, h.ne, h.bel.setCell hn z⟩
theorem RB.swap (h : RB w13 w g b v u ss b1 b2 x y) (g1 : w13.heap.size ≤ b1) (g2 : w13.heap.size ≤ b2) :
    RB w13 ((((w.setCell ⟨b1, 0, none⟩ (.int .i64 y)).setCell ⟨b1, 1, none⟩ (.int .i64 y)).setCell ⟨b2, 0, none⟩ (.int .i64 x)).setCell ⟨b2, 1, none⟩ (.int .i64 x)) g b v u ss b1 b2 y x := by
  have s1 := fun i hi => (h.sep i hi).1
  have s2 := fun i hi => (h.sep i hi).2
  have p1 := h.k1.set_ 0 (.int .i64 y)
  have p2 := p1.set_ 1 (.int .i64 y)
  have q1 := h.k2.far_ (p := ⟨b1, 0, none⟩) h.ne.symm (.int .i64 y)
  have q2 := q1.far_ (p := ⟨b1, 1, none⟩) h.ne.symm (.int .i64 y)
  have q3 := q2.set_ 0 (.int .i64 x)
  have q4 := q3.set_ 1 (.int .i64 x)
  have r1 := h.r.span h.k1 g1 s1 0 (.int .i64 y)
  have r2 := r1.span p1 g1 s1 1 (.int .i64 y)
  have r3 := r2.span q2 g2 s2 0 (.int .i64 x)
  have r4 := r3.span q3 g2 s2 1 (.int .i64 x)
  exact ⟨r4, (p2.far_ (p := ⟨b2, 0, none⟩) h.ne _).far_ (p := ⟨b2, 1, none⟩) h.ne _, q4, h.ne, h.sep⟩
/-- the loop's next round -/
theorem R4.next {c q : Nat} {lo hi x y : Int} (h : R4 w13 w g b v v (upd (upd (upd (upd (ptL g c q) 0 (ptL g c q 0 ++ [(lo, lo)])) 1 (ptL g c q 1 ++ [(hi, hi)])) 3 ((upd (upd (ptL g c q) 0 (ptL g c q 0 ++ [(lo, lo)])) 1 (ptL g c q 1 ++ [(hi, hi)])) 3 ++ [(x, x)])) 2 ((upd (upd (ptL g c q) 0 (ptL g c q 0 ++ [(lo, lo)])) 1 (ptL g c q 1 ++ [(hi, hi)])) 2 ++ [(y, y)]))) (e : g.ss.getD q (0, 0) = (lo, hi))
    (hx : (q = c ∧ x = hi ∧ y = lo) ∨ (q ≠ c ∧ x = lo ∧ y = hi)) : R4 w13 w g b v v (ptL g c (q + 1)) := by
  have el : loF g.ss q = lo := by unfold loF; rw [e]
  have eh : hiF g.ss q = hi := by unfold hiF; rw [e]
  refine h.congr (fun _ _ => rfl) (fun _ _ => rfl) (fun i hi => ?_)
  rw [ptL_next]
  obtain rfl | rfl | rfl | rfl : i = 0 ∨ i = 1 ∨ i = 2 ∨ i = 3 := by omega
  · simp [upd, ptF, el]
  · simp [upd, ptF, eh]
  · rcases hx with ⟨rfl, rfl, rfl⟩ | ⟨hq, rfl, rfl⟩
    · simp [upd, ptF, deepF, el]
    · simp [upd, ptF, deepF, eh, hq]
  · rcases hx with ⟨rfl, rfl, rfl⟩ | ⟨hq, rfl, rfl⟩
    · simp [upd, ptF, shalF, eh]
    · simp [upd, ptF, shalF, el, hq]
/-- behind both appends of a region: the rows i and j have grown -/
def TwoAp (w13 : World) (g : G) (b : Nat → Nat) (v u : Nat → Value) (ss : Nat → List (Int × Int)) (b1 b2 i j : Nat) (x y : Int) (p r : Value) (W : World) : Prop :=
  RB w13 W g b (upd (upd v i p) j r) u (upd (upd ss i (ss i ++ [(x, x)])) j (ss j ++ [(y, y)])) b1 b2 x y
/-- behind the region: and they are stored -/
def TwoSt (w13 : World) (g : G) (b : Nat → Nat) (ss : Nat → List (Int × Int)) (b1 b2 i j : Nat) (x y : Int) (W : World) : Prop :=
  ∃ v, RB w13 W g b v v (upd (upd ss i (ss i ++ [(x, x)])) j (ss j ++ [(y, y)])) b1 b2 x y
theorem twoSt_mk {i j : Nat} {p r : Value} {W : World} (h : TwoAp w13 g b v v ss b1 b2 i j x y p r W) (hi : i < 4) (hj : j < 4) (hij : i ≠ j) :
    TwoSt w13 g b ss b1 b2 i j x y ((W.setCell ⟨b i, 3, none⟩ p).setCell ⟨b j, 3, none⟩ r) := by
  refine ⟨upd (upd v i p) j r, ?_⟩
  have e1 : upd (upd v i p) j r i = p := by rw [upd_ne _ _ hij, upd_same]
  have e2 : upd (upd v i p) j r j = r := upd_same _ _ _
  have k := (h.store hi).store hj
  rw [e1, e2] at k
  exact k
/-- the first append of a region: row i grows -/
theorem two_first {Ua W : World} {i : Nat} {p va : Value} {n : Nat} (h : RB w13 w g b v u ss b1 b2 x y) (hi : i < 4) (ev : v i = va) (hb : Below w.heap.size w Ua) (hn : n = (ss i).length)
    (ho : W.ownsRow w13.heap.size 34 2 p (n + 1) (spanCells (ss i) ++ [.int .i64 x, .int .i64 x])) (hg : Ua.grownBy W va.ownBlock) (hat : va.ownBlock = p.ownBlock ∨ p.ownBlock = some Ua.heap.size) :
    RB w13 W g b (upd v i p) u (upd ss i (ss i ++ [(x, x)])) b1 b2 x y :=
  (h.below hb).app hi hn ho (by rw [ev]; exact hg) (by rw [ev]; exact hat.imp (fun e => e.symm) id)
/-- the second -/
theorem two_second {W1 Ua W : World} {i j : Nat} {p r va : Value} {n : Nat} (h : RB w13 W1 g b (upd v i p) u (upd ss i (ss i ++ [(x, x)])) b1 b2 x y) (hj : j < 4) (hij : i ≠ j) (e0 : v j = va) (hb : Below W1.heap.size W1 Ua) (hn : n = (ss j).length)
    (ho : W.ownsRow w13.heap.size 34 2 r (n + 1) (spanCells (ss j) ++ [.int .i64 y, .int .i64 y])) (hg : Ua.grownBy W va.ownBlock) (hat : va.ownBlock = r.ownBlock ∨ r.ownBlock = some Ua.heap.size) :
    TwoAp w13 g b v u ss b1 b2 i j x y p r W := by
  have es : upd ss i (ss i ++ [(x, x)]) j = ss j := upd_ne _ _ hij.symm
  have ev : upd v i p j = va := (upd_ne _ _ hij.symm).trans e0
  have k := (h.below hb).app (i := j) (n := n) (s := (y, y)) (v1 := r) hj (by rw [es]; exact hn) (by rw [es]; exact ho) (by rw [ev]; exact hg) (by rw [ev]; exact hat.imp (fun e => e.symm) id)
  rw [es] at k
  exact k
/-- behind the swap -/
def SwSt (w13 : World) (g : G) (b : Nat → Nat) (v : Nat → Value) (ss : Nat → List (Int × Int)) (b1 b2 q c : Nat) (lo hi : Int) (W : World) : Prop :=
  ∃ x y, RB w13 W g b v v ss b1 b2 x y ∧ ((q = c ∧ x = hi ∧ y = lo) ∨ (q ≠ c ∧ x = lo ∧ y = hi))
theorem span_one (l : List (Int × Int)) : ∀ z ∈ spanCells l, z.oneCell' = true := by
  intro z hz
  unfold spanCells at hz
  rw [List.mem_flatMap] at hz
  obtain ⟨s, _, hz⟩ := hz
  simp at hz
  rcases hz with rfl | rfl <;> rfl
end
end Go.Proofs.YthcenmocnphnmaaGreatDoor
/-
  A region that draws its order, whose last stores hit the cells that its loads read: the loads may be taken first, for the stores wait for them.
-/
namespace Go.Proofs.YthcenmocnphnmaaGreatDoor
open Go.RowKit Go.Shelf

section
variable {P : Program} {ops : Array Oper} {Q : Exit → Act → World → Prop} {md : Region.Mode} {S : World → Prop} {ks : List Nat}
/-- one of the stores has come up -/
def gateB (ks : List Nat) (listed : Array Bool) : Bool := ks.any fun k => listed.getD k true
def wpAnyL (P : Program) (md : Region.Mode) (ops : Array Oper) (Q : Exit → Act → World → Prop) (S : World → Prop) (ks : List Nat) : Nat → Array Bool → Act → World → Prop
  | 0, listed, a, w => Region.ready md ops listed = [] ∧ Q .normal a w
  | fuel + 1, listed, a, w =>
    (Region.ready md ops listed = [] → Q .normal a w) ∧
    ∀ i ∈ Region.ready md ops listed, wpOp P ops Q i (fun a' w' => (gateB ks (listed.setIfInBounds i true) = true ∨ S w') ∧ wpAnyL P md ops Q S ks fuel (listed.setIfInBounds i true) a' w') a w
theorem wpAny_of_L : ∀ (fuel : Nat) (listed : Array Bool) (a : Act) (w : World), wpAnyL P md ops Q S ks fuel listed a w → wpAny P md ops Q fuel listed a w
  | 0, _, _, _, h => h
  | fuel + 1, _, _, _, h => ⟨h.1, fun i hi => wpOp_mono (fun a' w' h' => wpAny_of_L fuel _ a' w' h'.2) (h.2 i hi)⟩
/-- what has come up has come up behind all that it waits for -/
def Closed (md : Region.Mode) (ops : Array Oper) (listed : Array Bool) : Prop :=
  ∀ (j : Nat) (oj : Oper), ops[j]? = some oj → listed.getD j true = true → ∀ e ∈ oj.after, Region.binds md e = true → listed.getD e.on false = true
def closedB (md : Region.Mode) (ops : Array Oper) (listed : Array Bool) : Bool :=
  (List.range ops.size).all fun j => !listed.getD j true || match ops[j]? with
    | some oj => oj.after.all fun e => !Region.binds md e || listed.getD e.on false
    | none => true
theorem closed_of {listed : Array Bool} (h : closedB md ops listed = true) : Closed md ops listed := by
  intro j oj hj hl e he hb
  simp only [closedB, List.all_eq_true, List.mem_range] at h
  have h1 := h j (Array.getElem?_eq_some_iff.1 hj).1
  simp only [hj, hl, Bool.not_true, Bool.false_or, Array.all_eq_true_iff_forall_mem] at h1
  have h2 := h1 e he
  simpa [hb] using h2
theorem Closed.set {listed : Array Bool} {j : Nat} (h : Closed md ops listed) (hj : j ∈ Region.ready md ops listed) : Closed md ops (listed.setIfInBounds j true) := by
  intro k ok hk hl e he hb
  by_cases hjk : j = k
  · subst hjk
    obtain ⟨_, o, ho, hall⟩ := mem_ready.1 hj
    obtain rfl : o = ok := Option.some.inj (ho.symm.trans hk)
    exact getD_set_true (hall e he hb)
  · rw [getD_set_ne true hjk] at hl
    exact getD_set_true (h k ok hk hl e he hb)
/-- number k waits for number i -/
def waitsB (md : Region.Mode) (ops : Array Oper) (i : Nat) : Nat → Nat → Bool
  | 0, _ => false
  | f + 1, k => match ops[k]? with
    | some o => o.after.any fun e => Region.binds md e && (e.on == i || waitsB md ops i f e.on)
    | none => false
theorem getD_up {listed : Array Bool} {k : Nat} (h : listed.getD k false = true) : listed.getD k true = true := by
  rw [Array.getD_eq_getD_getElem?] at *
  cases hl : listed[k]? with
  | none => rw [hl] at h; cases h
  | some b => rw [hl] at h; exact h
theorem waits_of {i : Nat} {listed : Array Bool} (hc : Closed md ops listed) : ∀ f k, waitsB md ops i f k = true → listed.getD k true = true → listed.getD i true = true
  | 0, _, h, _ => by cases h
  | f + 1, k, h, hl => by
    unfold waitsB at h
    cases ho : ops[k]? with
    | none => rw [ho] at h; cases h
    | some o =>
      rw [ho] at h
      obtain ⟨e, he, hb⟩ := Array.any_eq_true'.1 h
      simp only [Bool.and_eq_true, Bool.or_eq_true, beq_iff_eq] at hb
      have h1 := getD_up (hc k o ho hl e he hb.1)
      rcases hb.2 with rfl | h2
      · exact h1
      · exact waits_of hc f e.on h2 h1
theorem gate_closed {i : Nat} {listed : Array Bool} (hc : Closed md ops listed) (hw : (ks.all fun k => waitsB md ops i ops.size k) = true) (hi : listed.getD i true = false) : gateB ks listed = false := by
  rw [Bool.eq_false_iff]
  intro h
  unfold gateB at h
  rw [List.any_eq_true] at h
  obtain ⟨k, hk, hl⟩ := h
  have := waits_of hc ops.size k (List.all_eq_true.1 hw k hk) hl
  rw [hi] at this
  cases this
theorem gate_set {i : Nat} {listed : Array Bool} (hn : ks.contains i = false) : gateB ks (listed.setIfInBounds i true) = gateB ks listed := by
  have e : ∀ k, k ∈ ks → (listed.setIfInBounds i true).getD k true = listed.getD k true := fun k hk =>
    getD_set_ne true (fun e => by subst e; rw [List.contains_iff_mem.2 hk] at hn; cases hn)
  unfold gateB
  rw [Bool.eq_iff_iff, List.any_eq_true, List.any_eq_true]
  exact ⟨fun ⟨k, hk, h⟩ => ⟨k, hk, by rw [← e k hk]; exact h⟩, fun ⟨k, hk, h⟩ => ⟨k, hk, by rw [e k hk]; exact h⟩⟩
theorem wpAnyL_first {i : Nat} {oi : Oper} {v : Value} (hi : ops[i]? = some oi) (hsel : ∀ (j : Nat) (o : Oper) cs b, ops[j]? = some o → o.op ≠ .select cs b)
    (hQ : ∀ c a w, Q (.panic c) (a.put oi.dst v) w → Q (.panic c) a w) (hn : ks.contains i = false) (hw : (ks.all fun k => waitsB md ops i ops.size k) = true) :
    ∀ (fuel : Nat) (listed : Array Bool) (a : Act) (w : World),
      (∀ j oj, ops[j]? = some oj → j ≠ i → listed.getD j true = false → (∀ e ∈ oj.after, Region.binds md e = true → e.on ≠ i) → oi.apart ops oj = true) →
      Closed md ops listed → i ∈ Region.ready md ops listed → YieldsIf P ops S oi v a → S w →
      wpAnyL P md ops Q S ks fuel (listed.setIfInBounds i true) (a.put oi.dst v) w → wpAnyL P md ops Q S ks (fuel + 1) listed a w := by
  intro fuel
  induction fuel with
  | zero =>
    intro listed a w _ _ hr hy hS H
    refine ⟨fun h => (by rw [h] at hr; cases hr), fun j hj => ?_⟩
    by_cases hji : j = i
    · subst hji; exact hy.wpOp hi hS ⟨.inr hS, H⟩
    · have := ready_mono hj hji
      rw [H.1] at this
      cases this
  | succ fuel ih =>
    intro listed a w hfree hc hr hy hS H
    refine ⟨fun h => (by rw [h] at hr; cases hr), fun j hj => ?_⟩
    by_cases hji : j = i
    · subst hji; exact hy.wpOp hi hS ⟨.inr hS, H⟩
    · have h1 := H.2 j (ready_mono hj hji)
      obtain ⟨hjun, oj, hoj, hall⟩ := mem_ready.1 hj
      have hnot : ∀ e ∈ oj.after, Region.binds md e = true → e.on ≠ i := fun e he hb heq => by
        have h1 := hall e he hb
        have h0 := (mem_ready.1 hr).1
        rw [heq] at h1
        rw [getD_up h1] at h0
        cases h0
      have h2 := wpOp_putIf hoj (hfree j oj hoj hji hjun hnot) (fun cs b => hsel i oi cs b hi) (fun cs b => hsel j oj cs b hoj) hQ hy h1
      have hfree' : ∀ k ok, ops[k]? = some ok → k ≠ i → (listed.setIfInBounds j true).getD k true = false →
          (∀ e ∈ ok.after, Region.binds md e = true → e.on ≠ i) → oi.apart ops ok = true := fun k ok hk hki hun hno => by
        refine hfree k ok hk hki ?_ hno
        by_cases hjk : j = k
        · subst hjk; exact hjun
        · rw [getD_set_ne true hjk] at hun; exact hun
      have hr' := ready_mono hr (Ne.symm hji)
      have hc' := hc.set hj
      have hg := gate_closed hc' hw (mem_ready.1 hr').1
      refine wpOp_mono (fun a' w' h3 => ?_) h2
      have h4 := h3.2.1
      rw [Array.setIfInBounds_comm _ _ (Ne.symm hji), gate_set hn, hg] at h4
      have hS' : S w' := h4.resolve_left (by simp)
      refine ⟨.inr hS', ih (listed.setIfInBounds j true) a' w' hfree' hc' hr' h3.1 hS' ?_⟩
      rw [Array.setIfInBounds_comm _ _ hji]
      exact h3.2.2
theorem wpAnyL_take {i : Nat} {oi : Oper} {v : Value} {fuel : Nat} {listed : Array Bool} {a : Act} {w : World} (hi : ops[i]? = some oi)
    (hs : (Region.noSelect ops && Region.free md ops listed i && (Region.ready md ops listed).contains i && closedB md ops listed && !ks.contains i && ks.all fun k => waitsB md ops i ops.size k) = true)
    (hQ : ∀ c a w, Q (.panic c) (a.put oi.dst v) w → Q (.panic c) a w) (hy : YieldsIf P ops S oi v a) (hS : S w)
    (h : wpAnyL P md ops Q S ks fuel (listed.setIfInBounds i true) (a.put oi.dst v) w) : wpAnyL P md ops Q S ks (fuel + 1) listed a w := by
  simp only [Bool.and_eq_true, Bool.not_eq_true'] at hs
  obtain ⟨⟨⟨⟨⟨h1, h2⟩, h3⟩, h4⟩, h5⟩, h6⟩ := hs
  exact wpAnyL_first hi (Region.noSelect_spec h1) hQ h5 h6 fuel listed a w (Region.free_spec hi h2) (closed_of h4) (by simpa using h3) hy hS h
theorem wpAnyL_done {listed : Array Bool} {a : Act} {w : World} (hr : Region.ready md ops listed = []) (h : Q .normal a w) :
    ∀ fuel, wpAnyL P md ops Q S ks fuel listed a w
  | 0 => ⟨hr, h⟩
  | _ + 1 => ⟨fun _ => h, by rw [hr]; simp⟩
def AllReadyL (P : Program) (md : Region.Mode) (ops : Array Oper) (Q : Exit → Act → World → Prop) (S : World → Prop) (ks : List Nat) (fuel : Nat) (listed : Array Bool) (a : Act) (w : World) (rs : List Nat) : Prop :=
  ∀ i ∈ rs, wpOp P ops Q i (fun a' w' => (gateB ks (listed.setIfInBounds i true) = true ∨ S w') ∧ wpAnyL P md ops Q S ks fuel (listed.setIfInBounds i true) a' w') a w
theorem AllReadyL.nil {fuel : Nat} {listed : Array Bool} {a : Act} {w : World} : AllReadyL P md ops Q S ks fuel listed a w [] := fun _ h => by cases h
theorem AllReadyL.cons {fuel : Nat} {listed : Array Bool} {a : Act} {w : World} {i : Nat} {o : Oper} {rs : List Nat} (ho : ops[i]? = some o)
    (h : ∀ K' : Act → World → Prop, Shut (∀ a w, S w → (S w → wpAnyL P md ops Q S ks fuel (listed.setIfInBounds i true) a w) → K' a w) → if Region.wanted o (yielded ops a.tmps) = true then Oper.wp P o a w K' Q else K' (a.put o.dst undef) w)
    (hs : AllReadyL P md ops Q S ks fuel listed a w rs) : AllReadyL P md ops Q S ks fuel listed a w (i :: rs) := fun j hj => by
  rcases List.mem_cons.1 hj with rfl | hj
  · exact wpOp_step ho (fun K' hK => h K' (fun a w hS hW => hK a w ⟨.inr hS, hW hS⟩))
  · exact hs j hj
theorem AllReadyL.gate {fuel : Nat} {listed : Array Bool} {a : Act} {w : World} {i : Nat} {o : Oper} {rs : List Nat} (ho : ops[i]? = some o) (hg : gateB ks (listed.setIfInBounds i true) = true)
    (h : ∀ K' : Act → World → Prop, Shut (∀ a w, wpAnyL P md ops Q S ks fuel (listed.setIfInBounds i true) a w → K' a w) → if Region.wanted o (yielded ops a.tmps) = true then Oper.wp P o a w K' Q else K' (a.put o.dst undef) w)
    (hs : AllReadyL P md ops Q S ks fuel listed a w rs) : AllReadyL P md ops Q S ks fuel listed a w (i :: rs) := fun j hj => by
  rcases List.mem_cons.1 hj with rfl | hj
  · exact wpOp_step ho (fun K' hK => h K' (fun a w hW => hK a w ⟨.inl hg, hW⟩))
  · exact hs j hj
theorem wpAnyL_ready {rs : List Nat} {fuel : Nat} {listed : Array Bool} {a : Act} {w : World} (hr : Region.ready md ops listed = rs) (hne : rs ≠ [])
    (h : AllReadyL P md ops Q S ks fuel listed a w rs) : wpAnyL P md ops Q S ks (fuel + 1) listed a w :=
  ⟨fun h0 => absurd (hr ▸ h0) hne, hr ▸ h⟩
theorem wp_region_L {id : Nat} {a : Act} {w : World} (hm : P.follows .mixedOrders = true) (hS : S w.drew)
    (h : S w.drew → wpAnyL P .any ops Q S ks ops.size (Array.replicate ops.size false) a w.drew) : (Code.region id ops true).wp P Q a w :=
  wp_region_any hm (wpAny_of_L _ _ _ _ (h hS))
end
end Go.Proofs.YthcenmocnphnmaaGreatDoor
