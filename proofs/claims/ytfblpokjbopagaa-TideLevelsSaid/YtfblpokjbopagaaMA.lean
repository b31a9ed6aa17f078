/-
  Words and small laws for all texts of this family: slices that read as lists, grids, spans. No program is named here.
-/
import Derived.Below
import Derived.Laws.OwnMore
import Derived.Deep.AppendLies
import Derived.Deep.Draws
import Derived.WalkKit
import Derived.WalkSpells
import Derived.WalkLawsBesides
import Derived.Lib.Hide
import Derived.Deep.QuietTactic
import Derived.BigQuiet
import Derived.Laws.StructEq
import Derived.BigRegion
import Derived.Deep.DeepCutAuto
import Derived.Deep.RegionHeld3
import Derived.Deep.RegionLaw
import Derived.Laws.EntriesVeiled
import Derived.RangeFuncNested
import Derived.RangeFuncBound
import Derived.Shelf.RegionOpen
import Derived.OwnWalkIn
import Derived.TacticsInMore
import Derived.LoopNIn
import Derived.LoopIn
set_option linter.unusedSimpArgs false
set_option linter.unusedVariables false
namespace Go.Proofs.Ytfblpokjbopagaa
open Go.RowKit

/-- The slice value v has n elements of 'size' cells each, which read as xs, all below block B. -/
def Reads (w : World) (B size : Nat) (v : Value) (n : Nat) (xs : List Value) : Prop :=
  xs.length = n * size ∧ n ≤ 9223372036854775807 ∧ ∃ A c, v = .slice A n c ∧ n ≤ c ∧ (0 < n → ∃ b off, A = some ⟨b, off, none⟩ ∧ b < B ∧ ∀ j u, xs[j]? = some u → w.cell? ⟨b, off + j, none⟩ = some u)

section
variable {w w' : World} {B B' size n : Nat} {v : Value} {xs : List Value}
theorem Reads.keep (h : Reads w B size v n xs) (hk : ∀ p : Addr, p.block < B → w'.cell? p = w.cell? p) : Reads w' B size v n xs := by
  obtain ⟨h1, h2, A, c, h3, h4, h5⟩ := h
  refine ⟨h1, h2, A, c, h3, h4, fun hn => ?_⟩
  obtain ⟨b, off, e, hb, hc⟩ := h5 hn
  exact ⟨b, off, e, hb, fun j u hu => (hk _ hb).trans (hc j u hu)⟩
theorem Reads.more (h : Reads w B size v n xs) (hB : B ≤ B') : Reads w B' size v n xs := by
  obtain ⟨h1, h2, A, c, h3, h4, h5⟩ := h
  refine ⟨h1, h2, A, c, h3, h4, fun hn => ?_⟩
  obtain ⟨b, off, e, hb, hc⟩ := h5 hn
  exact ⟨b, off, e, by omega, hc⟩
theorem Reads.below (h : Reads w B size v n xs) (hb : Below B w w') : Reads w' B size v n xs := h.keep fun _ hp => hb.cell hp
/-- carried to a later world, and to its own size -/
theorem Reads.later (h : Reads w B size v n xs) (hb : Below B w w') (hB : B ≤ w.heap.size) : Reads w' w'.heap.size size v n xs := (h.below hb).more (Nat.le_trans hB hb.size)
theorem Reads.nil (w : World) (B size : Nat) : Reads w B size (.slice none 0 0) 0 [] := ⟨by simp, by omega, none, 0, rfl, by omega, fun h => absurd h (by omega)⟩
theorem Reads.of_own {base e : Nat} (h : w.ownsRow base e size v n xs) : Reads w w.heap.size size v n xs := by
  rcases h.2 with ⟨rfl, rfl⟩ | ⟨g, cap, cur, rfl, h2, h3, h4, h5, h6, h7⟩
  · exact ⟨h.1, by omega, none, 0, rfl, by omega, fun h => absurd h (by omega)⟩
  · unfold maxLen at h5
    refine ⟨h.1, by omega, _, cap, rfl, h4, fun hn => ⟨g, 0, rfl, ?_, fun j u hu => ?_⟩⟩
    · rcases Nat.lt_or_ge g w.heap.size with h | h
      · exact h
      · rw [Array.getElem?_eq_none h] at h3; cases h3
    · have := h.cells (g := g) rfl j u hu
      have e1 : (⟨g, 0, none⟩ : Addr).add j = ⟨g, 0 + j, none⟩ := by unfold Addr.add; split <;> simp_all
      rwa [e1] at this
theorem Reads.slice {A : Option Addr} {m c : Nat} (h : Reads w B size (.slice A m c) n xs) : m = n ∧ n ≤ c := by
  obtain ⟨_, _, A', c', h3, h4, _⟩ := h
  injection h3 with a b d
  subst b d
  exact ⟨rfl, h4⟩
theorem Reads.at1 {A : Option Addr} {c k : Nat} {xs : List Value} (h : Reads w B 1 (.slice A n c) n xs) (hk : k < n) :
    ∃ b off, A = some ⟨b, off, none⟩ ∧ b < B ∧ ∃ u, xs[k]? = some u ∧ w.cell? ⟨b, off + k, none⟩ = some u := by
  obtain ⟨h1, _, A', c', h3, h4, h5⟩ := h
  injection h3 with a b d
  subst a
  obtain ⟨b, off, e, hb, hc⟩ := h5 (by omega)
  have hl : k < xs.length := by omega
  exact ⟨b, off, e, hb, xs[k], List.getElem?_eq_getElem hl, hc k _ (List.getElem?_eq_getElem hl)⟩
end

/-! Lists of integers, of booleans, of spans. -/
def IntsAt (w : World) (B : Nat) (v : Value) (zs : List Int) : Prop := Reads w B 1 v zs.length (zs.map (Value.int .i64))
def BoolsAt (w : World) (B : Nat) (v : Value) (zs : List Bool) : Prop := Reads w B 1 v zs.length (zs.map Value.bool)
def spanCells (l : List (Int × Int)) : List Value := l.flatMap fun s => [.int .i64 s.1, .int .i64 s.2]
def SpansAt (w : World) (B : Nat) (v : Value) (ss : List (Int × Int)) : Prop := Reads w B 2 v ss.length (spanCells ss)

theorem spanCells_length (l : List (Int × Int)) : (spanCells l).length = l.length * 2 := by
  induction l with
  | nil => rfl
  | cons s l ih => simp [spanCells] at ih ⊢; omega
theorem spanCells_append (l m : List (Int × Int)) : spanCells (l ++ m) = spanCells l ++ spanCells m := by simp [spanCells]
theorem spanCells_get (l : List (Int × Int)) (k : Nat) (h : k < l.length) : (spanCells l)[k * 2]? = some (.int .i64 l[k].1) ∧ (spanCells l)[k * 2 + 1]? = some (.int .i64 l[k].2) := by
  induction l generalizing k with
  | nil => simp at h
  | cons s l ih =>
    cases k with
    | zero => simp [spanCells]
    | succ k =>
      have := ih k (by simpa using h)
      have e1 : (k + 1) * 2 = k * 2 + 2 := by omega
      simp only [spanCells, List.flatMap_cons, List.cons_append, List.nil_append, List.getElem_cons_succ] at this ⊢
      rw [e1]
      exact ⟨by simpa using this.1, by simpa using this.2⟩

section
variable {w w' : World} {B B' : Nat} {v : Value} {zs : List Int} {bs : List Bool} {ss : List (Int × Int)}
theorem IntsAt.below (h : IntsAt w B v zs) (hb : Below B w w') : IntsAt w' B v zs := Reads.below h hb
theorem IntsAt.more (h : IntsAt w B v zs) (hB : B ≤ B') : IntsAt w B' v zs := Reads.more h hB
theorem IntsAt.later (h : IntsAt w B v zs) (hb : Below B w w') (hB : B ≤ w.heap.size) : IntsAt w' w'.heap.size v zs := Reads.later h hb hB
theorem BoolsAt.below (h : BoolsAt w B v bs) (hb : Below B w w') : BoolsAt w' B v bs := Reads.below h hb
theorem BoolsAt.more (h : BoolsAt w B v bs) (hB : B ≤ B') : BoolsAt w B' v bs := Reads.more h hB
theorem BoolsAt.later (h : BoolsAt w B v bs) (hb : Below B w w') (hB : B ≤ w.heap.size) : BoolsAt w' w'.heap.size v bs := Reads.later h hb hB
theorem SpansAt.below (h : SpansAt w B v ss) (hb : Below B w w') : SpansAt w' B v ss := Reads.below h hb
theorem SpansAt.more (h : SpansAt w B v ss) (hB : B ≤ B') : SpansAt w B' v ss := Reads.more h hB
theorem SpansAt.later (h : SpansAt w B v ss) (hb : Below B w w') (hB : B ≤ w.heap.size) : SpansAt w' w'.heap.size v ss := Reads.later h hb hB
theorem IntsAt.open_ (h : IntsAt w B v zs) : ∃ A c, v = .slice A zs.length c ∧ zs.length ≤ c ∧ zs.length ≤ 9223372036854775807 := by
  obtain ⟨_, h2, A, c, h3, h4, _⟩ := h
  exact ⟨A, c, h3, h4, h2⟩
theorem BoolsAt.open_ (h : BoolsAt w B v bs) : ∃ A c, v = .slice A bs.length c ∧ bs.length ≤ c ∧ bs.length ≤ 9223372036854775807 := by
  obtain ⟨_, h2, A, c, h3, h4, _⟩ := h
  exact ⟨A, c, h3, h4, h2⟩
theorem SpansAt.open_ (h : SpansAt w B v ss) : ∃ A c, v = .slice A ss.length c ∧ ss.length ≤ c ∧ ss.length ≤ 9223372036854775807 := by
  obtain ⟨_, h2, A, c, h3, h4, _⟩ := h
  exact ⟨A, c, h3, h4, h2⟩
theorem IntsAt.at_ {A : Option Addr} {n c : Nat} (h : IntsAt w B (.slice A n c) zs) {k : Nat} (hk : k < zs.length) :
    ∃ b off, A = some ⟨b, off, none⟩ ∧ b < B ∧ w.cell? ⟨b, off + k, none⟩ = some (.int .i64 zs[k]) := by
  obtain ⟨rfl, _⟩ := Reads.slice h
  obtain ⟨b, off, e, hb, u, hu, hc⟩ := Reads.at1 h hk
  refine ⟨b, off, e, hb, ?_⟩
  rw [hc]
  simpa [hk] using hu.symm
theorem BoolsAt.at_ {A : Option Addr} {n c : Nat} (h : BoolsAt w B (.slice A n c) bs) {k : Nat} (hk : k < bs.length) :
    ∃ b off, A = some ⟨b, off, none⟩ ∧ b < B ∧ w.cell? ⟨b, off + k, none⟩ = some (.bool bs[k]) := by
  obtain ⟨rfl, _⟩ := Reads.slice h
  obtain ⟨b, off, e, hb, u, hu, hc⟩ := Reads.at1 h hk
  refine ⟨b, off, e, hb, ?_⟩
  rw [hc]
  simpa [hk] using hu.symm
theorem SpansAt.at_ {A : Option Addr} {n c : Nat} (h : SpansAt w B (.slice A n c) ss) {k : Nat} (hk : k < ss.length) :
    ∃ b off, A = some ⟨b, off, none⟩ ∧ b < B ∧ w.cell? ⟨b, off + k * 2, none⟩ = some (.int .i64 ss[k].1) ∧ w.cell? ⟨b, off + k * 2 + 1, none⟩ = some (.int .i64 ss[k].2) := by
  obtain ⟨h1, _, A', c', h3, h4, h5⟩ := h
  injection h3 with a b d
  subst a
  obtain ⟨b, off, e, hb, hc⟩ := h5 (by omega)
  obtain ⟨g1, g2⟩ := spanCells_get ss k hk
  exact ⟨b, off, e, hb, hc _ _ g1, hc _ _ g2⟩
end

/-! Grids. -/
structure G where
  W : Int
  H : Int
  S : Int
  ss : List (Int × Int)
deriving DecidableEq
def GridAt (w : World) (B : Nat) (x : Value) (g : G) : Prop := ∃ v, x = .agg #[.int .i64 g.W, .int .i64 g.H, .int .i64 g.S, v] ∧ SpansAt w B v g.ss
theorem GridAt.below {w w' : World} {B : Nat} {x : Value} {g : G} (h : GridAt w B x g) (hb : Below B w w') : GridAt w' B x g := by
  obtain ⟨v, e, hs⟩ := h
  exact ⟨v, e, hs.below hb⟩
theorem GridAt.more {w : World} {B B' : Nat} {x : Value} {g : G} (h : GridAt w B x g) (hb : B ≤ B') : GridAt w B' x g := by
  obtain ⟨v, e, hs⟩ := h
  exact ⟨v, e, hs.more hb⟩
theorem GridAt.later {w w' : World} {B : Nat} {x : Value} {g : G} (h : GridAt w B x g) (hb : Below B w w') (hB : B ≤ w.heap.size) : GridAt w' w'.heap.size x g := by
  obtain ⟨v, e, hs⟩ := h
  exact ⟨v, e, hs.later hb hB⟩
/-- 'w' grew out of w below w's own size', of three steps. -/
theorem Below.self_trans {a b c : World} (h : Below a.heap.size a b) (k : Below b.heap.size b c) : Below a.heap.size a c := h.trans (k.mono h.size)
theorem bcell {B : Nat} {W w1 : World} (hb : Below B W w1) : (∀ b o, b < B → w1.cell? ⟨b, o, none⟩ = W.cell? ⟨b, o, none⟩) ∧ (∀ b o, b < B → w1.frozen? ⟨b, o, none⟩ = W.frozen? ⟨b, o, none⟩) :=
  ⟨fun b o h => hb.cell (p := ⟨b, o, none⟩) h, fun b o h => hb.frozen (p := ⟨b, o, none⟩) h⟩
theorem Below.drewN' {B : Nat} {a w : World} (h : Below B a w) (n : Nat) : Below B a (w.drewN n) := ⟨h.os, h.tape, h.output, h.size, h.block⟩
theorem quiet_left {P : Program} {f : FuncId} {args : Array Value} {w : World} {n : Nat} {v : Value}
    (h : Calls P f args (w.drewN n) fun e w' => e = .returned v ∧ w.drewN n = w') : Calls P f args (w.drewN n) fun e w'' => e = .returned v ∧ ∃ m, w'' = w.drewN m :=
  h.mono fun _ _ ⟨he, hm⟩ => ⟨he, n, hm.symm⟩
theorem spanCells_set (l : List (Int × Int)) (k : Nat) (s : Int × Int) (h : k < l.length) : spanCells (l.set k s) = ((spanCells l).set (k * 2) (.int .i64 s.1)).set (k * 2 + 1) (.int .i64 s.2) := by
  induction l generalizing k with
  | nil => simp at h
  | cons x l ih =>
    cases k with
    | zero => simp [spanCells]
    | succ k =>
      have := ih k (by simpa using h)
      have e1 : (k + 1) * 2 = k * 2 + 2 := by omega
      simp only [spanCells, List.flatMap_cons, List.cons_append, List.nil_append, List.set_cons_succ] at this ⊢
      rw [e1]
      simp [this]
theorem madeCells_two (z : Value) (n : Nat) : (madeCells #[z, z] n).toList = List.replicate n z := by
  apply List.ext_getElem?
  intro j
  by_cases hj : j < n
  · have : j % 2 = 0 ∨ j % 2 = 1 := by omega
    rcases this with h | h <;> simp [madeCells, hj, h]
  · simp [madeCells, hj]
theorem spanCells_zero (n : Nat) : (madeCells #[.int .i64 0, .int .i64 0] (n * 2)).toList = spanCells (List.replicate n ((0 : Int), (0 : Int))) := by
  rw [madeCells_two]
  induction n with
  | zero => rfl
  | succ n ih =>
    have e1 : (n + 1) * 2 = n * 2 + 1 + 1 := by omega
    rw [e1, List.replicate_succ, List.replicate_succ, ih]
    simp [spanCells, List.replicate_succ]
section
variable {w : World} {base e g cap : Nat}
theorem own_spans_at {l : List (Int × Int)} {n : Nat} (h : w.ownsRow base e 2 (.slice (some ⟨g, 0, none⟩) n cap) n (spanCells l)) {k : Nat} (hk : k < l.length) :
    w.cell? ⟨g, k * 2, none⟩ = some (.int .i64 l[k].1) ∧ w.cell? ⟨g, k * 2 + 1, none⟩ = some (.int .i64 l[k].2) := by
  have hn := h.1
  rw [spanCells_length] at hn
  obtain ⟨h1, h2⟩ := spanCells_get l k hk
  exact ⟨(h.cellAt _ (by omega)).trans h1, (h.cellAt _ (by omega)).trans h2⟩
theorem own_spans_set {l : List (Int × Int)} {n : Nat} (h : w.ownsRow base e 2 (.slice (some ⟨g, 0, none⟩) n cap) n (spanCells l)) {k : Nat} (hk : k < l.length) (a b : Int) :
    ((w.setCell ⟨g, k * 2, none⟩ (.int .i64 a)).setCell ⟨g, k * 2 + 1, none⟩ (.int .i64 b)).ownsRow base e 2 (.slice (some ⟨g, 0, none⟩) n cap) n (spanCells (l.set k (a, b))) := by
  rw [spanCells_set l k (a, b) hk]
  exact ((h.stored (k * 2) (.int .i64 a)).1.stored (k * 2 + 1) (.int .i64 b)).1
end
theorem run_make_rowN {P : Program} (t e : TypeId) (i : TypeInfo) (z : Value) (ht : P.underlying t = some (.slice e)) (hi : P.info? e = some i) (hz : i.zero = some z)
    (kl kc : IntKind) (n c : Nat) (hnc : n ≤ c) (hbytes : i.bytes * c ≤ 281474976710656) (h63 : c ≤ 9223372036854775807) (w : World) :
    (Instr.makeSlice t (.int kl (n : Int)) (.int kc (c : Int))).run P w = .ok (.slice (some ⟨w.heap.size, 0, none⟩) n c) (w.alloc (.cells (madeCells z.cells (c * i.size)) e)) := by
  have hb : (i.bytes : Int) * (c : Int) ≤ 281474976710656 := by
    have h : ((i.bytes * c : Nat) : Int) ≤ 281474976710656 := by omega
    rwa [Int.natCast_mul] at h
  have hr := run_make (P := P) w t e i z ht hi hz kl kc n c (by omega) (by omega) hb (by omega)
  simp only [Int.toNat_natCast] at hr
  exact hr
theorem own_made (w : World) (e : TypeId) (z : Array Value) (n size base : Nat) (hb : base ≤ w.heap.size) (hn : n ≤ 65536) :
    (w.alloc (.cells (madeCells z (n * size)) e)).ownsRow base e size (.slice (some ⟨w.heap.size, 0, none⟩) n n) n (madeCells z (n * size)).toList :=
  World.ownsRow_lit w (madeCells z (n * size)) n hb (by unfold maxLen; omega) (size_madeCells _ _)
theorem add_i64 {a b : Int} (h : a = b) : Value.int .i64 a = Value.int .i64 b := by rw [h]
theorem ret_int {k : IntKind} {a b : Int} (h : a = b) : Ending.returned (.int k a) = .returned (.int k b) := by rw [h]
theorem ret_bool {a b : Bool} (h : a = b) : Ending.returned (.bool a) = .returned (.bool b) := by rw [h]
theorem hid_not {p : Bool} (h : ¬ p = true) : Hid (p = false) := by simpa [Hid] using h
theorem take_snoc {α : Type} (l : List α) (k : Nat) (h : k < l.length) : l.take (k + 1) = l.take k ++ [l[k]] := by
  rw [List.take_succ_eq_append_getElem h]
end Go.Proofs.Ytfblpokjbopagaa
/-
  Frames, and blocks that are known whole (the general part of the text Ha of layer 1, for seats without a heap).
-/
namespace Go.Proofs.Ytfblpokjbopagaa
open Go.RowKit

/-- Whatever lay in w, and of which o does not speak, lies in w' as it lay. -/
structure Far (o : Nat → Prop) (w w' : World) : Prop where
  os : w'.os = w.os
  tape : w'.tape = w.tape
  output : w'.output = w.output
  size : w.heap.size ≤ w'.heap.size
  block : ∀ k, k < w.heap.size → ¬ o k → w'.heap[k]? = w.heap[k]?
theorem Far.refl (o : Nat → Prop) (w : World) : Far o w w := ⟨rfl, rfl, rfl, Nat.le_refl _, fun _ _ _ => rfl⟩
theorem Far.trans {o o' : Nat → Prop} {a b c : World} (h : Far o a b) (k : Far o' b c) (ho : ∀ i, i < a.heap.size → o' i → o i) : Far o a c :=
  ⟨k.os.trans h.os, k.tape.trans h.tape, k.output.trans h.output, Nat.le_trans h.size k.size, fun i hi hn => (k.block i (Nat.lt_of_lt_of_le hi h.size) (fun e => hn (ho i hi e))).trans (h.block i hi hn)⟩
theorem Far.mono {o o' : Nat → Prop} {a b : World} (h : Far o a b) (ho : ∀ i, i < a.heap.size → o i → o' i) : Far o' a b :=
  ⟨h.os, h.tape, h.output, h.size, fun i hi hn => h.block i hi (fun e => hn (ho i hi e))⟩
theorem Far.of_below {o : Nat → Prop} {a b : World} (h : Below a.heap.size a b) : Far o a b := ⟨h.os, h.tape, h.output, h.size, fun i hi _ => h.block i hi⟩
theorem Far.below {o : Nat → Prop} {a b : World} {B : Nat} (h : Far o a b) (hB : B ≤ a.heap.size) (ho : ∀ i, i < B → ¬ o i) : Below B a b := ⟨h.os, h.tape, h.output, h.size, fun i hi => h.block i (Nat.lt_of_lt_of_le hi hB) (ho i hi)⟩
theorem Far.drew {o : Nat → Prop} {a w : World} (h : Far o a w) : Far o a w.drew := ⟨h.os, h.tape, h.output, h.size, h.block⟩
theorem Far.drewN {o : Nat → Prop} {a w : World} (h : Far o a w) (n : Nat) : Far o a (w.drewN n) := ⟨h.os, h.tape, h.output, h.size, h.block⟩
theorem Far.alloc {o : Nat → Prop} {a w : World} (h : Far o a w) (x : Obj) : Far o a (w.alloc x) :=
  ⟨h.os, h.tape, h.output, Nat.le_trans h.size (by simp), fun i hi hn => (Below.heap_alloc w x i (Nat.lt_of_lt_of_le hi h.size)).trans (h.block i hi hn)⟩
theorem Far.setCell {o : Nat → Prop} {a w : World} (h : Far o a w) {p : Addr} (hp : o p.block ∨ a.heap.size ≤ p.block) (u : Value) : Far o a (w.setCell p u) :=
  ⟨h.os, h.tape, h.output, by simpa [World.setCell] using h.size, fun i hi hn => (Below.heap_setCell w p u i (by
    rintro rfl
    rcases hp with hp | hp
    · exact hn hp
    · omega)).trans (h.block i hi hn)⟩
theorem Far.grown {o : Nat → Prop} {a w w' : World} {row : Option Nat} (h : Far o a w) (hg : w.grownBy w' row) (hr : ∀ k, row = some k → o k ∨ a.heap.size ≤ k) : Far o a w' :=
  ⟨hg.os.trans h.os, hg.tape.trans h.tape, hg.output.trans h.output, Nat.le_trans h.size hg.size, fun i hi hn => (hg.block i (Nat.lt_of_lt_of_le hi h.size) (fun e => by
    rcases hr i e.symm with h1 | h1
    · exact hn h1
    · omega)).trans (h.block i hi hn)⟩
theorem Far.cell {o : Nat → Prop} {w w' : World} (h : Far o w w') {p : Addr} (hp : p.block < w.heap.size) (hn : ¬ o p.block) : w'.cell? p = w.cell? p := World.cell?_of_block (w := w) (h.block p.block hp hn)
theorem lt_of_heap {w : World} {g : Nat} {o : Obj} (h : w.heap[g]? = some o) : g < w.heap.size := (Array.getElem?_eq_some_iff.1 h).1

/-! Blocks that are known whole. -/
def Blk (w : World) (g : Nat) (t : TypeId) (cs : Array Value) : Prop := w.heap[g]? = some (.cells cs t (0, 0))
section
variable {w w' : World} {g : Nat} {t : TypeId} {cs : Array Value}
theorem Blk.lt (h : Blk w g t cs) : g < w.heap.size := lt_of_heap h
theorem Blk.cell (h : Blk w g t cs) (i : Nat) : w.cell? ⟨g, i, none⟩ = cs[i]? := cell_of_row w g i cs t (0, 0) h
theorem Blk.frozen (h : Blk w g t cs) (i : Nat) : w.frozen? ⟨g, i, none⟩ = false := by
  unfold Blk at h
  simp [World.frozen?, h]
theorem Blk.new (w : World) (t : TypeId) (cs : Array Value) : Blk (w.alloc (.cells cs t)) w.heap.size t cs := heap_alloc_new w _
theorem Blk.new' (w : World) (t : TypeId) (cs : Array Value) {n : Nat} (h : n = w.heap.size) : Blk (w.alloc (.cells cs t)) n t cs := by
  subst h
  exact Blk.new w t cs
theorem Blk.drew (h : Blk w g t cs) : Blk w.drew g t cs := h
theorem Blk.drewN (h : Blk w g t cs) (n : Nat) : Blk (w.drewN n) g t cs := h
theorem Blk.alloc (h : Blk w g t cs) (o : Obj) : Blk (w.alloc o) g t cs := (Below.heap_alloc w o g h.lt).trans h
theorem Blk.set_ (h : Blk w g t cs) (i : Nat) (u : Value) : Blk (w.setCell ⟨g, i, none⟩ u) g t (cs.setIfInBounds i u) := by
  unfold Blk at h ⊢
  simp [World.setCell, Array.getElem?_modify, h]
theorem Blk.far_ (h : Blk w g t cs) {p : Addr} (hp : g ≠ p.block) (u : Value) : Blk (w.setCell p u) g t cs := (Below.heap_setCell w p u g hp).trans h
theorem Blk.below {B : Nat} (h : Blk w g t cs) (hb : Below B w w') (hg : g < B) : Blk w' g t cs := (hb.block g hg).trans h
theorem Blk.far {o : Nat → Prop} (h : Blk w g t cs) (hb : Far o w w') (hg : ¬ o g) : Blk w' g t cs := (hb.block g h.lt hg).trans h
theorem own_blk_ne {base e size n : Nat} {v : Value} {xs : List Value} (h : w.ownsRow base e size v n xs) (hg : Blk w g t cs) (hne : e ≠ t) : v.ownBlock ≠ some g := by
  rcases h.2 with ⟨rfl, _⟩ | ⟨g', cap, cur, rfl, _, hh, _⟩
  · simp [Value.ownBlock]
  · intro he
    have : g' = g := by simpa [Value.ownBlock] using he
    subst this
    unfold Blk at hg
    rw [hg] at hh
    injection hh with hh
    injection hh with _ ht
    exact hne ht.symm
end

theorem own_far {w w' : World} {base e size n : Nat} {v : Value} {xs : List Value} (h : w.ownsRow base e size v n xs) (hk : ∀ g, v.ownBlock = some g → w'.heap[g]? = w.heap[g]?) : w'.ownsRow base e size v n xs := by
  obtain ⟨h1, h2⟩ := h
  refine ⟨h1, ?_⟩
  rcases h2 with h2 | ⟨g, cap, cur, rfl, hg, hh, r⟩
  · exact .inl h2
  · exact .inr ⟨g, cap, cur, rfl, hg, (hk g rfl).trans hh, r⟩
theorem own_own_ne {w : World} {base e size n base' e' size' n' : Nat} {v u : Value} {xs ys : List Value} (h : w.ownsRow base e size v n xs) (k : w.ownsRow base' e' size' u n' ys) (hne : e ≠ e') : u.ownBlock = none ∨ u.ownBlock ≠ v.ownBlock := by
  rcases k.2 with ⟨rfl, _⟩ | ⟨g', cap', cur', rfl, _, hh', _⟩
  · exact .inl rfl
  · right
    rcases h.2 with ⟨rfl, _⟩ | ⟨g, cap, cur, rfl, _, hh, _⟩
    · simp [Value.ownBlock]
    · intro he
      have : g' = g := by simpa [Value.ownBlock] using he
      subst this
      rw [hh] at hh'
      injection hh' with hh'
      injection hh' with _ ht
      exact hne ht
theorem own_some {w : World} {base e size n : Nat} {v : Value} {xs : List Value} (h : w.ownsRow base e size v n xs) (hn : 0 < n) : ∃ g cap, v = .slice (some ⟨g, 0, none⟩) n cap := by
  rcases h.2 with ⟨_, h0⟩ | ⟨g, cap, cur, hv, _⟩
  · omega
  · exact ⟨g, cap, hv⟩
theorem own_set {w : World} {base e size n : Nat} {v : Value} {xs : List Value} (h : w.ownsRow base e size v n xs) {p : Addr} (hp : v.ownBlock ≠ some p.block) (u : Value) : (w.setCell p u).ownsRow base e size v n xs :=
  own_far h fun g hg => Below.heap_setCell w p u g (by rintro rfl; exact hp hg)
theorem own_below {w w' : World} {B base e size n : Nat} {v : Value} {xs : List Value} (h : w.ownsRow base e size v n xs) (hb : Below B w w') (hB : w.heap.size ≤ B) : w'.ownsRow base e size v n xs :=
  own_far h fun g hg => hb.block g (by have := (h.lt g hg).2; omega)

/-- the grid that is being read: its box, and its row of spans -/
theorem grown_refl (w : World) (row : Option Nat) : w.grownBy w row := ⟨rfl, rfl, rfl, Nat.le_refl _, fun _ _ _ => rfl⟩
theorem grown_below {U w w' : World} {row : Option Nat} (h : U.grownBy w row) (hb : Below w.heap.size w w') : U.grownBy w' row :=
  ⟨hb.os.trans h.os, hb.tape.trans h.tape, hb.output.trans h.output, Nat.le_trans h.size hb.size, fun k hk hn => (hb.block k (Nat.lt_of_lt_of_le hk h.size)).trans (h.block k hk hn)⟩
theorem grown_trans {U w w' : World} {row row' : Option Nat} (h : U.grownBy w row) (hb : w.grownBy w' row') (hr : ∀ k, row' = some k → k < U.heap.size → row = some k) : U.grownBy w' row :=
  ⟨hb.os.trans h.os, hb.tape.trans h.tape, hb.output.trans h.output, Nat.le_trans h.size hb.size, fun k hk hn => (hb.block k (Nat.lt_of_lt_of_le hk h.size) (fun e => hn (hr k e.symm hk).symm)).trans (h.block k hk hn)⟩
theorem blk_grown {w w' : World} {row : Option Nat} {b t : Nat} {cs : Array Value} (h : Blk w b t cs) (hg : w.grownBy w' row) (hne : some b ≠ row) : Blk w' b t cs := by
  have hl := h.lt
  unfold Blk at *
  rw [hg.block b hl hne]
  exact h
theorem span_parts {w : World} {b t : Nat} {x y : Int} (h : Blk w b t #[.int .i64 x, .int .i64 y]) :
    w.cell? ⟨b, 0, none⟩ = some (.int .i64 x) ∧ w.cell? ⟨b, 1, none⟩ = some (.int .i64 y) ∧ w.frozen? ⟨b, 0, none⟩ = false ∧ w.frozen? ⟨b, 1, none⟩ = false :=
  ⟨h.cell 0, h.cell 1, h.frozen 0, h.frozen 1⟩
theorem span_res {w : World} {b t : Nat} {u0 u1 : Value} (h : Blk w b t #[u0, u1]) (x y : Value) (o : Obj) :
    (((w.setCell ⟨b, 0, none⟩ x).setCell ⟨b, 1, none⟩ y).alloc o).cell? ⟨b, 0, none⟩ = some x ∧ (((w.setCell ⟨b, 0, none⟩ x).setCell ⟨b, 1, none⟩ y).alloc o).cell? ⟨b, 1, none⟩ = some y := by
  have k := ((h.set_ 0 x).set_ 1 y).alloc o
  exact ⟨k.cell 0, k.cell 1⟩
/-- two new boxes of two integers each -/
def TwoBox (W0 : World) (t : Nat) (x y : Int × Int) (p q : Value) (W : World) : Prop := ∃ b c : Nat, p = .pointer (some ⟨b, 0, none⟩) ∧ q = .pointer (some ⟨c, 0, none⟩) ∧ Blk W b t #[.int .i64 x.1, .int .i64 x.2] ∧ Blk W c t #[.int .i64 y.1, .int .i64 y.2] ∧ b ≠ c ∧ W0.heap.size ≤ b ∧ W0.heap.size ≤ c ∧ Below W0.heap.size W0 W
theorem twoBox_set {W0 W : World} {t b c : Nat} {x y : Int × Int} {u0 u1 v0 v1 : Value} (hb : Blk W b t #[u0, u1]) (hc : Blk W c t #[v0, v1]) (hne : b ≠ c) (gb : W0.heap.size ≤ b) (gc : W0.heap.size ≤ c) (h : Below W0.heap.size W0 W) :
    TwoBox W0 t x y (.pointer (some ⟨b, 0, none⟩)) (.pointer (some ⟨c, 0, none⟩)) ((((W.setCell ⟨b, 0, none⟩ (.int .i64 x.1)).setCell ⟨b, 1, none⟩ (.int .i64 x.2)).setCell ⟨c, 0, none⟩ (.int .i64 y.1)).setCell ⟨c, 1, none⟩ (.int .i64 y.2)) := by
  have k1 := (((hb.set_ 0 (.int .i64 x.1)).set_ 1 (.int .i64 x.2)).far_ (p := ⟨c, 0, none⟩) hne (.int .i64 y.1)).far_ (p := ⟨c, 1, none⟩) hne (.int .i64 y.2)
  have k2 := (((hc.far_ (p := ⟨b, 0, none⟩) hne.symm (.int .i64 x.1)).far_ (p := ⟨b, 1, none⟩) hne.symm (.int .i64 x.2)).set_ 0 (.int .i64 y.1)).set_ 1 (.int .i64 y.2)
  exact ⟨b, c, rfl, rfl, k1, k2, hne, gb, gc, (((h.setCell gb _).setCell gb _).setCell gc _).setCell gc _⟩
theorem TwoBox.of {V0 W0 W : World} {t : Nat} {x y : Int × Int} {p q : Value} (h : TwoBox W0 t x y p q W) (hb : Below V0.heap.size V0 W0) : TwoBox V0 t x y p q W := by
  obtain ⟨b, c, rfl, rfl, k1, k2, hne, gb, gc, h⟩ := h
  exact ⟨b, c, rfl, rfl, k1, k2, hne, Nat.le_trans hb.size gb, Nat.le_trans hb.size gc, hb.trans (h.mono hb.size)⟩
theorem span_res2 {w : World} {b t : Nat} {u0 u1 : Value} (h : Blk w b t #[u0, u1]) (x y : Value) :
    ((w.setCell ⟨b, 0, none⟩ x).setCell ⟨b, 1, none⟩ y).cell? ⟨b, 0, none⟩ = some x ∧ ((w.setCell ⟨b, 0, none⟩ x).setCell ⟨b, 1, none⟩ y).cell? ⟨b, 1, none⟩ = some y := by
  have k := (h.set_ 0 x).set_ 1 y
  exact ⟨k.cell 0, k.cell 1⟩
theorem alloc2_eq {w : World} {t : Nat} {x y x' y' : Int} (hx : x = x') (hy : y = y') : w.alloc (.cells #[.int .i64 x, .int .i64 y] t) = w.alloc (.cells #[.int .i64 x', .int .i64 y'] t) := by rw [hx, hy]
end Go.Proofs.Ytfblpokjbopagaa
/-
  A region that draws its order, whose last stores hit the cells that its loads read: the loads may be taken first, for the stores wait for them.
-/
namespace Go.Proofs.Ytfblpokjbopagaa
open Go.RowKit

section
variable {P : Program} {ops : Array Oper} {Q : Exit → Act → World → Prop} {md : Region.Mode} {S : World → Prop} {ks : List Nat}
/-- one of the stores has come up -/
def gateB (ks : List Nat) (listed : Array Bool) : Bool := ks.any fun k => listed.getD k true
def wpAnyL (P : Program) (md : Region.Mode) (ops : Array Oper) (Q : Exit → Act → World → Prop) (S : World → Prop) (ks : List Nat) : Nat → Array Bool → Act → World → Prop
  | 0, listed, a, w => Region.ready md ops listed = [] ∧ Q .normal a w
  | fuel + 1, listed, a, w =>
    (Region.ready md ops listed = [] → Q .normal a w) ∧
    ∀ i ∈ Region.ready md ops listed, wpOp P ops Q i (fun a' w' => (gateB ks (listed.setIfInBounds i true) = true ∨ S w') ∧ wpAnyL P md ops Q S ks fuel (listed.setIfInBounds i true) a' w') a w
theorem wpAny_of_L : ∀ (fuel : Nat) (listed : Array Bool) (a : Act) (w : World), wpAnyL P md ops Q S ks fuel listed a w → wpAny P md ops Q fuel listed a w
  | 0, _, _, _, h => h
  | fuel + 1, _, _, _, h => ⟨h.1, fun i hi => wpOp_mono (fun a' w' h' => wpAny_of_L fuel _ a' w' h'.2) (h.2 i hi)⟩
/-- what has come up has come up behind all that it waits for -/
def Closed (md : Region.Mode) (ops : Array Oper) (listed : Array Bool) : Prop :=
  ∀ (j : Nat) (oj : Oper), ops[j]? = some oj → listed.getD j true = true → ∀ e ∈ oj.after, Region.binds md e = true → listed.getD e.on false = true
def closedB (md : Region.Mode) (ops : Array Oper) (listed : Array Bool) : Bool :=
  (List.range ops.size).all fun j => !listed.getD j true || match ops[j]? with
    | some oj => oj.after.all fun e => !Region.binds md e || listed.getD e.on false
    | none => true
theorem closed_of {listed : Array Bool} (h : closedB md ops listed = true) : Closed md ops listed := by
  intro j oj hj hl e he hb
  simp only [closedB, List.all_eq_true, List.mem_range] at h
  have h1 := h j (Array.getElem?_eq_some_iff.1 hj).1
  simp only [hj, hl, Bool.not_true, Bool.false_or, Array.all_eq_true_iff_forall_mem] at h1
  have h2 := h1 e he
  simpa [hb] using h2
theorem Closed.set {listed : Array Bool} {j : Nat} (h : Closed md ops listed) (hj : j ∈ Region.ready md ops listed) : Closed md ops (listed.setIfInBounds j true) := by
  intro k ok hk hl e he hb
  by_cases hjk : j = k
  · subst hjk
    obtain ⟨_, o, ho, hall⟩ := mem_ready.1 hj
    obtain rfl : o = ok := Option.some.inj (ho.symm.trans hk)
    exact getD_set_true (hall e he hb)
  · rw [getD_set_ne true hjk] at hl
    exact getD_set_true (h k ok hk hl e he hb)
/-- number k waits for number i -/
def waitsB (md : Region.Mode) (ops : Array Oper) (i : Nat) : Nat → Nat → Bool
  | 0, _ => false
  | f + 1, k => match ops[k]? with
    | some o => o.after.any fun e => Region.binds md e && (e.on == i || waitsB md ops i f e.on)
    | none => false
theorem getD_up {listed : Array Bool} {k : Nat} (h : listed.getD k false = true) : listed.getD k true = true := by
  rw [Array.getD_eq_getD_getElem?] at *
  cases hl : listed[k]? with
  | none => rw [hl] at h; cases h
  | some b => rw [hl] at h; exact h
theorem waits_of {i : Nat} {listed : Array Bool} (hc : Closed md ops listed) : ∀ f k, waitsB md ops i f k = true → listed.getD k true = true → listed.getD i true = true
  | 0, _, h, _ => by cases h
  | f + 1, k, h, hl => by
    unfold waitsB at h
    cases ho : ops[k]? with
    | none => rw [ho] at h; cases h
    | some o =>
      rw [ho] at h
      obtain ⟨e, he, hb⟩ := Array.any_eq_true'.1 h
      simp only [Bool.and_eq_true, Bool.or_eq_true, beq_iff_eq] at hb
      have h1 := getD_up (hc k o ho hl e he hb.1)
      rcases hb.2 with rfl | h2
      · exact h1
      · exact waits_of hc f e.on h2 h1
theorem gate_closed {i : Nat} {listed : Array Bool} (hc : Closed md ops listed) (hw : (ks.all fun k => waitsB md ops i ops.size k) = true) (hi : listed.getD i true = false) : gateB ks listed = false := by
  rw [Bool.eq_false_iff]
  intro h
  unfold gateB at h
  rw [List.any_eq_true] at h
  obtain ⟨k, hk, hl⟩ := h
  have := waits_of hc ops.size k (List.all_eq_true.1 hw k hk) hl
  rw [hi] at this
  cases this
theorem gate_set {i : Nat} {listed : Array Bool} (hn : ks.contains i = false) : gateB ks (listed.setIfInBounds i true) = gateB ks listed := by
  have e : ∀ k, k ∈ ks → (listed.setIfInBounds i true).getD k true = listed.getD k true := fun k hk =>
    getD_set_ne true (fun e => by subst e; rw [List.contains_iff_mem.2 hk] at hn; cases hn)
  unfold gateB
  rw [Bool.eq_iff_iff, List.any_eq_true, List.any_eq_true]
  exact ⟨fun ⟨k, hk, h⟩ => ⟨k, hk, by rw [← e k hk]; exact h⟩, fun ⟨k, hk, h⟩ => ⟨k, hk, by rw [e k hk]; exact h⟩⟩
theorem wpAnyL_first {i : Nat} {oi : Oper} {v : Value} (hi : ops[i]? = some oi) (hsel : ∀ (j : Nat) (o : Oper) cs b, ops[j]? = some o → o.op ≠ .select cs b)
    (hQ : ∀ c a w, Q (.panic c) (a.put oi.dst v) w → Q (.panic c) a w) (hn : ks.contains i = false) (hw : (ks.all fun k => waitsB md ops i ops.size k) = true) :
    ∀ (fuel : Nat) (listed : Array Bool) (a : Act) (w : World),
      (∀ j oj, ops[j]? = some oj → j ≠ i → listed.getD j true = false → (∀ e ∈ oj.after, Region.binds md e = true → e.on ≠ i) → oi.apart ops oj = true) →
      Closed md ops listed → i ∈ Region.ready md ops listed → YieldsIf P ops S oi v a → S w →
      wpAnyL P md ops Q S ks fuel (listed.setIfInBounds i true) (a.put oi.dst v) w → wpAnyL P md ops Q S ks (fuel + 1) listed a w := by
  intro fuel
  induction fuel with
  | zero =>
    intro listed a w _ _ hr hy hS H
    refine ⟨fun h => (by rw [h] at hr; cases hr), fun j hj => ?_⟩
    by_cases hji : j = i
    · subst hji; exact hy.wpOp hi hS ⟨.inr hS, H⟩
    · have := ready_mono hj hji
      rw [H.1] at this
      cases this
  | succ fuel ih =>
    intro listed a w hfree hc hr hy hS H
    refine ⟨fun h => (by rw [h] at hr; cases hr), fun j hj => ?_⟩
    by_cases hji : j = i
    · subst hji; exact hy.wpOp hi hS ⟨.inr hS, H⟩
    · have h1 := H.2 j (ready_mono hj hji)
      obtain ⟨hjun, oj, hoj, hall⟩ := mem_ready.1 hj
      have hnot : ∀ e ∈ oj.after, Region.binds md e = true → e.on ≠ i := fun e he hb heq => by
        have h1 := hall e he hb
        have h0 := (mem_ready.1 hr).1
        rw [heq] at h1
        rw [getD_up h1] at h0
        cases h0
      have h2 := wpOp_putIf hoj (hfree j oj hoj hji hjun hnot) (fun cs b => hsel i oi cs b hi) (fun cs b => hsel j oj cs b hoj) hQ hy h1
      have hfree' : ∀ k ok, ops[k]? = some ok → k ≠ i → (listed.setIfInBounds j true).getD k true = false →
          (∀ e ∈ ok.after, Region.binds md e = true → e.on ≠ i) → oi.apart ops ok = true := fun k ok hk hki hun hno => by
        refine hfree k ok hk hki ?_ hno
        by_cases hjk : j = k
        · subst hjk; exact hjun
        · rw [getD_set_ne true hjk] at hun; exact hun
      have hr' := ready_mono hr (Ne.symm hji)
      have hc' := hc.set hj
      have hg := gate_closed hc' hw (mem_ready.1 hr').1
      refine wpOp_mono (fun a' w' h3 => ?_) h2
      have h4 := h3.2.1
      rw [Array.setIfInBounds_comm _ _ (Ne.symm hji), gate_set hn, hg] at h4
      have hS' : S w' := h4.resolve_left (by simp)
      refine ⟨.inr hS', ih (listed.setIfInBounds j true) a' w' hfree' hc' hr' h3.1 hS' ?_⟩
      rw [Array.setIfInBounds_comm _ _ hji]
      exact h3.2.2
theorem wpAnyL_take {i : Nat} {oi : Oper} {v : Value} {fuel : Nat} {listed : Array Bool} {a : Act} {w : World} (hi : ops[i]? = some oi)
    (hs : (Region.noSelect ops && Region.free md ops listed i && (Region.ready md ops listed).contains i && closedB md ops listed && !ks.contains i && ks.all fun k => waitsB md ops i ops.size k) = true)
    (hQ : ∀ c a w, Q (.panic c) (a.put oi.dst v) w → Q (.panic c) a w) (hy : YieldsIf P ops S oi v a) (hS : S w)
    (h : wpAnyL P md ops Q S ks fuel (listed.setIfInBounds i true) (a.put oi.dst v) w) : wpAnyL P md ops Q S ks (fuel + 1) listed a w := by
  simp only [Bool.and_eq_true, Bool.not_eq_true'] at hs
  obtain ⟨⟨⟨⟨⟨h1, h2⟩, h3⟩, h4⟩, h5⟩, h6⟩ := hs
  exact wpAnyL_first hi (Region.noSelect_spec h1) hQ h5 h6 fuel listed a w (Region.free_spec hi h2) (closed_of h4) (by simpa using h3) hy hS h
theorem wpAnyL_done {listed : Array Bool} {a : Act} {w : World} (hr : Region.ready md ops listed = []) (h : Q .normal a w) :
    ∀ fuel, wpAnyL P md ops Q S ks fuel listed a w
  | 0 => ⟨hr, h⟩
  | _ + 1 => ⟨fun _ => h, by rw [hr]; simp⟩
def AllReadyL (P : Program) (md : Region.Mode) (ops : Array Oper) (Q : Exit → Act → World → Prop) (S : World → Prop) (ks : List Nat) (fuel : Nat) (listed : Array Bool) (a : Act) (w : World) (rs : List Nat) : Prop :=
  ∀ i ∈ rs, wpOp P ops Q i (fun a' w' => (gateB ks (listed.setIfInBounds i true) = true ∨ S w') ∧ wpAnyL P md ops Q S ks fuel (listed.setIfInBounds i true) a' w') a w
theorem AllReadyL.nil {fuel : Nat} {listed : Array Bool} {a : Act} {w : World} : AllReadyL P md ops Q S ks fuel listed a w [] := fun _ h => by cases h
theorem AllReadyL.cons {fuel : Nat} {listed : Array Bool} {a : Act} {w : World} {i : Nat} {o : Oper} {rs : List Nat} (ho : ops[i]? = some o)
    (h : ∀ K' : Act → World → Prop, Shut (∀ a w, S w → (S w → wpAnyL P md ops Q S ks fuel (listed.setIfInBounds i true) a w) → K' a w) → if Region.wanted o (yielded ops a.tmps) = true then Oper.wp P o a w K' Q else K' (a.put o.dst undef) w)
    (hs : AllReadyL P md ops Q S ks fuel listed a w rs) : AllReadyL P md ops Q S ks fuel listed a w (i :: rs) := fun j hj => by
  rcases List.mem_cons.1 hj with rfl | hj
  · exact wpOp_step ho (fun K' hK => h K' (fun a w hS hW => hK a w ⟨.inr hS, hW hS⟩))
  · exact hs j hj
theorem AllReadyL.gate {fuel : Nat} {listed : Array Bool} {a : Act} {w : World} {i : Nat} {o : Oper} {rs : List Nat} (ho : ops[i]? = some o) (hg : gateB ks (listed.setIfInBounds i true) = true)
    (h : ∀ K' : Act → World → Prop, Shut (∀ a w, wpAnyL P md ops Q S ks fuel (listed.setIfInBounds i true) a w → K' a w) → if Region.wanted o (yielded ops a.tmps) = true then Oper.wp P o a w K' Q else K' (a.put o.dst undef) w)
    (hs : AllReadyL P md ops Q S ks fuel listed a w rs) : AllReadyL P md ops Q S ks fuel listed a w (i :: rs) := fun j hj => by
  rcases List.mem_cons.1 hj with rfl | hj
  · exact wpOp_step ho (fun K' hK => h K' (fun a w hW => hK a w ⟨.inl hg, hW⟩))
  · exact hs j hj
theorem wpAnyL_ready {rs : List Nat} {fuel : Nat} {listed : Array Bool} {a : Act} {w : World} (hr : Region.ready md ops listed = rs) (hne : rs ≠ [])
    (h : AllReadyL P md ops Q S ks fuel listed a w rs) : wpAnyL P md ops Q S ks (fuel + 1) listed a w :=
  ⟨fun h0 => absurd (hr ▸ h0) hne, hr ▸ h⟩
theorem wp_region_L {id : Nat} {a : Act} {w : World} (hm : P.follows .mixedOrders = true) (hS : S w.drew)
    (h : S w.drew → wpAnyL P .any ops Q S ks ops.size (Array.replicate ops.size false) a w.drew) : (Code.region id ops true).wp P Q a w :=
  wp_region_any hm (wpAny_of_L _ _ _ _ (h hS))
end
end Go.Proofs.Ytfblpokjbopagaa
/-
  A region that draws its order, in a round of a range over a function, walked as outside of rounds: it neither defers nor panics nor outgrows.
-/
namespace Go.Proofs.Ytfblpokjbopagaa
open Go.RowKit Go.Shelf

theorem uponIn_round' (l : Nat) {F : Fence} {n : Nat} {P : Program} {o : Oper} {a : Act} {next : Act → World → Prop} {Q : Exit → Act → World → Prop} {r : Result Next} (h : o.uponIn F n P a next Q r) : o.uponIn (F.inRound l) n P a next Q r := by
  cases r with
  | ok x w' => cases x <;> exact h
  | halt x w' => cases x <;> exact h
theorem wpAnyIn_round {l n : Nat} {F : Fence} {P : Program} {md : Region.Mode} {ops : Array Oper} {Q : Exit → Act → World → Prop} (hF : F.round = none) (hd : ∀ (i : Nat) (o : Oper), ops[i]? = some o → ∀ c, o.op ≠ .defer c) :
    ∀ (fuel : Nat) (listed : Array Bool) (a : Act) (w : World), wpAnyIn F n P md ops Q fuel listed a w → wpAnyIn (F.inRound l) n P md ops Q fuel listed a w
  | 0, _, _, _, h => h
  | fuel + 1, listed, a, w, h => by
    refine ⟨h.1, fun i hi => ?_⟩
    have h1 := wpOpIn_mono (fun a w => wpAnyIn_round (l := l) hF hd fuel (listed.setIfInBounds i true) a w) (h.2 i hi)
    unfold wpOpIn at h1 ⊢
    split
    · rename_i e; simpa [e] using h1
    · rename_i o ho
      simp only [ho] at h1
      split
      · rename_i hw
        simp only [hw, if_true] at h1
        unfold Oper.wpIn at h1 ⊢
        rw [hF, Oper.semAt_none] at h1
        rw [Fence.inRound_round, Oper.semAt_some l _ _ (hd i o ho)]
        exact ⟨h1.1, uponIn_round' l h1.2⟩
      · rename_i hw
        simp only [hw] at h1
        exact h1
def noDefer (ops : Array Oper) : Bool := ops.all fun o => match o.op with | .defer _ => false | _ => true
theorem noDefer_spec {ops : Array Oper} (h : noDefer ops = true) (i : Nat) (o : Oper) (ho : ops[i]? = some o) (c : Call) : o.op ≠ .defer c := by
  intro e
  have h1 := Array.all_eq_true_iff_forall_mem.1 h o (Array.mem_of_getElem? ho)
  rw [e] at h1
  cases h1
theorem wpIn_region_round {l n : Nat} {P : Program} {id : Nat} {ops : Array Oper} {Q : Exit → Act → World → Prop} {a : Act} {w : World} (hm : P.follows .mixedOrders = true) (hd : noDefer ops = true)
    (h : wpAnyIn Fence.wide n P .any ops Q ops.size (Array.replicate ops.size false) a w.drew) : (Code.region id ops true).wpIn (Fence.wide.inRound l) n P Q a w :=
  wpIn_region_any hm (wpAnyIn_round rfl (noDefer_spec hd) _ _ _ _ h)

/-- a region that ends normally, and in no other way -/
def NormOnly (Q : Exit → Act → World → Prop) : Exit → Act → World → Prop
  | .normal, a, w => Q .normal a w
  | _, _, _ => False
theorem NormOnly.normal {Q : Exit → Act → World → Prop} {a : Act} {w : World} (h : Q .normal a w) : NormOnly Q .normal a w := h
theorem NormOnly.imp {Q : Exit → Act → World → Prop} : ∀ (e : Exit) (a : Act) (w : World), NormOnly Q e a w → Q e a w := fun e a w h => by
  cases e <;> first | exact h | exact (h : False).elim
theorem NormOnly.shut {Q : Exit → Act → World → Prop} : ¬ LetsOut (NormOnly Q) := fun ⟨_, _, h⟩ => h
theorem rowsIn_plain {n : Nat} {P : Program} {row : String} {args : Array Value} {w : World} {R : Value → World → Prop} (h : Rows P row args w R) : RowsIn Fence.wide n P row args w R := fun c cs _ => by
  obtain ⟨v, w', r, s⟩ := h c cs
  exact ⟨v, w', r, stepsIn_wide.2 s⟩
theorem uponIn_plain {n : Nat} {P : Program} {o : Oper} {a : Act} {next : Act → World → Prop} {Q : Exit → Act → World → Prop} {r : Result Next} (h : o.upon P a next Q r) : o.uponIn Fence.wide n P a next Q r := by
  cases r with
  | ok x w' =>
    cases x with
    | enter f args => exact ⟨fun h => by simp [Fence.wide] at h, callsIn_wide.2 h⟩
    | row r args => exact ⟨fun h => by simp [Fence.wide] at h, rowsIn_plain h⟩
    | round l f tmps assign body => exact (h : False).elim
    | _ => exact h
  | halt x w' => cases x <;> exact h
theorem wpAnyIn_plain {n : Nat} {P : Program} {md : Region.Mode} {ops : Array Oper} {Q : Exit → Act → World → Prop} (hQ : ¬ LetsOut Q) :
    ∀ (fuel : Nat) (listed : Array Bool) (a : Act) (w : World), wpAny P md ops Q fuel listed a w → wpAnyIn Fence.wide n P md ops Q fuel listed a w
  | 0, _, _, _, h => h
  | fuel + 1, listed, a, w, h => by
    refine ⟨h.1, fun i hi => ?_⟩
    have h1 := wpOp_mono (fun a w => wpAnyIn_plain (n := n) hQ fuel (listed.setIfInBounds i true) a w) (h.2 i hi)
    unfold wpOp at h1
    unfold wpOpIn
    split
    · rename_i e; simpa [e] using h1
    · rename_i o ho
      simp only [ho] at h1
      split
      · rename_i hw
        simp only [hw, if_true] at h1
        rcases h1 with h1 | h1
        · unfold Oper.wp at h1
          unfold Oper.wpIn
          exact ⟨fun _ _ => trivial, uponIn_plain h1⟩
        · exact absurd h1.2 hQ
      · rename_i hw
        simp only [hw] at h1
        exact ⟨fun _ _ => trivial, h1⟩
theorem wpIn_region_calm {l n : Nat} {P : Program} {id : Nat} {ops : Array Oper} {S : World → Prop} {ks : List Nat} {Q : Exit → Act → World → Prop} {a : Act} {w : World} (hm : P.follows .mixedOrders = true) (hd : noDefer ops = true) (hS : S w.drew)
    (h : S w.drew → wpAnyL P .any ops (NormOnly Q) S ks ops.size (Array.replicate ops.size false) a w.drew) : (Code.region id ops true).wpIn (Fence.wide.inRound l) n P Q a w :=
  Code.wpIn_mono NormOnly.imp (wpIn_region_round hm hd (wpAnyIn_plain NormOnly.shut _ _ _ _ (wpAny_of_L _ _ _ _ (h hS))))
end Go.Proofs.Ytfblpokjbopagaa
