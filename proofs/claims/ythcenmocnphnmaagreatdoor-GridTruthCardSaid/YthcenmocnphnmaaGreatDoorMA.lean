/-
  Words and small laws for all texts of this family: slices that read as lists, grids, spans. No program is named here.
-/
import Derived.Below
import Derived.Laws.OwnMore
import Derived.Deep.AppendLies
import Derived.Deep.Draws
import Derived.WalkKit
import Derived.WalkSpells
import Derived.WalkLawsBesides
import Derived.Lib.Hide
import Derived.Deep.QuietTactic
import Derived.BigQuiet
import Derived.Laws.StructEq
import Derived.Test.YthcenmocnphnmaaGreatDoorRows
import Derived.Deep.DeepCutAuto
import Derived.StillTailTactics
set_option linter.unusedSimpArgs false
set_option linter.unusedVariables false
namespace Go.Proofs.YthcenmocnphnmaaGreatDoor
open Go.RowKit

/-- The slice value v has n elements of 'size' cells each, which read as xs, all below block B. -/
def Reads (w : World) (B size : Nat) (v : Value) (n : Nat) (xs : List Value) : Prop :=
  xs.length = n * size ∧ n ≤ 9223372036854775807 ∧ ∃ A c, v = .slice A n c ∧ n ≤ c ∧ (0 < n → ∃ b off, A = some ⟨b, off, none⟩ ∧ b < B ∧ ∀ j u, xs[j]? = some u → w.cell? ⟨b, off + j, none⟩ = some u)

section
variable {w w' : World} {B B' size n : Nat} {v : Value} {xs : List Value}
theorem Reads.keep (h : Reads w B size v n xs) (hk : ∀ p : Addr, p.block < B → w'.cell? p = w.cell? p) : Reads w' B size v n xs := by
  obtain ⟨h1, h2, A, c, h3, h4, h5⟩ := h
  refine ⟨h1, h2, A, c, h3, h4, fun hn => ?_⟩
  obtain ⟨b, off, e, hb, hc⟩ := h5 hn
  exact ⟨b, off, e, hb, fun j u hu => (hk _ hb).trans (hc j u hu)⟩
theorem Reads.more (h : Reads w B size v n xs) (hB : B ≤ B') : Reads w B' size v n xs := by
  obtain ⟨h1, h2, A, c, h3, h4, h5⟩ := h
  refine ⟨h1, h2, A, c, h3, h4, fun hn => ?_⟩
  obtain ⟨b, off, e, hb, hc⟩ := h5 hn
  exact ⟨b, off, e, by omega, hc⟩
theorem Reads.below (h : Reads w B size v n xs) (hb : Below B w w') : Reads w' B size v n xs := h.keep fun _ hp => hb.cell hp
/-- carried to a later world, and to its own size -/
theorem Reads.later (h : Reads w B size v n xs) (hb : Below B w w') (hB : B ≤ w.heap.size) : Reads w' w'.heap.size size v n xs := (h.below hb).more (Nat.le_trans hB hb.size)
theorem Reads.nil (w : World) (B size : Nat) : Reads w B size (.slice none 0 0) 0 [] := ⟨by simp, by omega, none, 0, rfl, by omega, fun h => absurd h (by omega)⟩
theorem Reads.of_own {base e : Nat} (h : w.ownsRow base e size v n xs) : Reads w w.heap.size size v n xs := by
  rcases h.2 with ⟨rfl, rfl⟩ | ⟨g, cap, cur, rfl, h2, h3, h4, h5, h6, h7⟩
  · exact ⟨h.1, by omega, none, 0, rfl, by omega, fun h => absurd h (by omega)⟩
  · unfold maxLen at h5
    refine ⟨h.1, by omega, _, cap, rfl, h4, fun hn => ⟨g, 0, rfl, ?_, fun j u hu => ?_⟩⟩
    · rcases Nat.lt_or_ge g w.heap.size with h | h
      · exact h
      · rw [Array.getElem?_eq_none h] at h3; cases h3
    · have := h.cells (g := g) rfl j u hu
      have e1 : (⟨g, 0, none⟩ : Addr).add j = ⟨g, 0 + j, none⟩ := by unfold Addr.add; split <;> simp_all
      rwa [e1] at this
theorem Reads.slice {A : Option Addr} {m c : Nat} (h : Reads w B size (.slice A m c) n xs) : m = n ∧ n ≤ c := by
  obtain ⟨_, _, A', c', h3, h4, _⟩ := h
  injection h3 with a b d
  subst b d
  exact ⟨rfl, h4⟩
theorem Reads.at1 {A : Option Addr} {c k : Nat} {xs : List Value} (h : Reads w B 1 (.slice A n c) n xs) (hk : k < n) :
    ∃ b off, A = some ⟨b, off, none⟩ ∧ b < B ∧ ∃ u, xs[k]? = some u ∧ w.cell? ⟨b, off + k, none⟩ = some u := by
  obtain ⟨h1, _, A', c', h3, h4, h5⟩ := h
  injection h3 with a b d
  subst a
  obtain ⟨b, off, e, hb, hc⟩ := h5 (by omega)
  have hl : k < xs.length := by omega
  exact ⟨b, off, e, hb, xs[k], List.getElem?_eq_getElem hl, hc k _ (List.getElem?_eq_getElem hl)⟩
end

/-! Lists of integers, of booleans, of spans. -/
def IntsAt (w : World) (B : Nat) (v : Value) (zs : List Int) : Prop := Reads w B 1 v zs.length (zs.map (Value.int .i64))
def BoolsAt (w : World) (B : Nat) (v : Value) (zs : List Bool) : Prop := Reads w B 1 v zs.length (zs.map Value.bool)
def spanCells (l : List (Int × Int)) : List Value := l.flatMap fun s => [.int .i64 s.1, .int .i64 s.2]
def SpansAt (w : World) (B : Nat) (v : Value) (ss : List (Int × Int)) : Prop := Reads w B 2 v ss.length (spanCells ss)

theorem spanCells_length (l : List (Int × Int)) : (spanCells l).length = l.length * 2 := by
  induction l with
  | nil => rfl
  | cons s l ih => simp [spanCells] at ih ⊢; omega
theorem spanCells_append (l m : List (Int × Int)) : spanCells (l ++ m) = spanCells l ++ spanCells m := by simp [spanCells]
theorem spanCells_get (l : List (Int × Int)) (k : Nat) (h : k < l.length) : (spanCells l)[k * 2]? = some (.int .i64 l[k].1) ∧ (spanCells l)[k * 2 + 1]? = some (.int .i64 l[k].2) := by
  induction l generalizing k with
  | nil => simp at h
  | cons s l ih =>
    cases k with
    | zero => simp [spanCells]
    | succ k =>
      have := ih k (by simpa using h)
      have e1 : (k + 1) * 2 = k * 2 + 2 := by omega
      simp only [spanCells, List.flatMap_cons, List.cons_append, List.nil_append, List.getElem_cons_succ] at this ⊢
      rw [e1]
      exact ⟨by simpa using this.1, by simpa using this.2⟩

section
variable {w w' : World} {B B' : Nat} {v : Value} {zs : List Int} {bs : List Bool} {ss : List (Int × Int)}
theorem IntsAt.below (h : IntsAt w B v zs) (hb : Below B w w') : IntsAt w' B v zs := Reads.below h hb
theorem IntsAt.more (h : IntsAt w B v zs) (hB : B ≤ B') : IntsAt w B' v zs := Reads.more h hB
theorem IntsAt.later (h : IntsAt w B v zs) (hb : Below B w w') (hB : B ≤ w.heap.size) : IntsAt w' w'.heap.size v zs := Reads.later h hb hB
theorem BoolsAt.below (h : BoolsAt w B v bs) (hb : Below B w w') : BoolsAt w' B v bs := Reads.below h hb
theorem BoolsAt.more (h : BoolsAt w B v bs) (hB : B ≤ B') : BoolsAt w B' v bs := Reads.more h hB
theorem BoolsAt.later (h : BoolsAt w B v bs) (hb : Below B w w') (hB : B ≤ w.heap.size) : BoolsAt w' w'.heap.size v bs := Reads.later h hb hB
theorem SpansAt.below (h : SpansAt w B v ss) (hb : Below B w w') : SpansAt w' B v ss := Reads.below h hb
theorem SpansAt.more (h : SpansAt w B v ss) (hB : B ≤ B') : SpansAt w B' v ss := Reads.more h hB
theorem SpansAt.later (h : SpansAt w B v ss) (hb : Below B w w') (hB : B ≤ w.heap.size) : SpansAt w' w'.heap.size v ss := Reads.later h hb hB
theorem IntsAt.open_ (h : IntsAt w B v zs) : ∃ A c, v = .slice A zs.length c ∧ zs.length ≤ c ∧ zs.length ≤ 9223372036854775807 := by
  obtain ⟨_, h2, A, c, h3, h4, _⟩ := h
  exact ⟨A, c, h3, h4, h2⟩
theorem BoolsAt.open_ (h : BoolsAt w B v bs) : ∃ A c, v = .slice A bs.length c ∧ bs.length ≤ c ∧ bs.length ≤ 9223372036854775807 := by
  obtain ⟨_, h2, A, c, h3, h4, _⟩ := h
  exact ⟨A, c, h3, h4, h2⟩
theorem SpansAt.open_ (h : SpansAt w B v ss) : ∃ A c, v = .slice A ss.length c ∧ ss.length ≤ c ∧ ss.length ≤ 9223372036854775807 := by
  obtain ⟨_, h2, A, c, h3, h4, _⟩ := h
  exact ⟨A, c, h3, h4, h2⟩
theorem IntsAt.at_ {A : Option Addr} {n c : Nat} (h : IntsAt w B (.slice A n c) zs) {k : Nat} (hk : k < zs.length) :
    ∃ b off, A = some ⟨b, off, none⟩ ∧ b < B ∧ w.cell? ⟨b, off + k, none⟩ = some (.int .i64 zs[k]) := by
  obtain ⟨rfl, _⟩ := Reads.slice h
  obtain ⟨b, off, e, hb, u, hu, hc⟩ := Reads.at1 h hk
  refine ⟨b, off, e, hb, ?_⟩
  rw [hc]
  simpa [hk] using hu.symm
theorem BoolsAt.at_ {A : Option Addr} {n c : Nat} (h : BoolsAt w B (.slice A n c) bs) {k : Nat} (hk : k < bs.length) :
    ∃ b off, A = some ⟨b, off, none⟩ ∧ b < B ∧ w.cell? ⟨b, off + k, none⟩ = some (.bool bs[k]) := by
  obtain ⟨rfl, _⟩ := Reads.slice h
  obtain ⟨b, off, e, hb, u, hu, hc⟩ := Reads.at1 h hk
  refine ⟨b, off, e, hb, ?_⟩
  rw [hc]
  simpa [hk] using hu.symm
theorem SpansAt.at_ {A : Option Addr} {n c : Nat} (h : SpansAt w B (.slice A n c) ss) {k : Nat} (hk : k < ss.length) :
    ∃ b off, A = some ⟨b, off, none⟩ ∧ b < B ∧ w.cell? ⟨b, off + k * 2, none⟩ = some (.int .i64 ss[k].1) ∧ w.cell? ⟨b, off + k * 2 + 1, none⟩ = some (.int .i64 ss[k].2) := by
  obtain ⟨h1, _, A', c', h3, h4, h5⟩ := h
  injection h3 with a b d
  subst a
  obtain ⟨b, off, e, hb, hc⟩ := h5 (by omega)
  obtain ⟨g1, g2⟩ := spanCells_get ss k hk
  exact ⟨b, off, e, hb, hc _ _ g1, hc _ _ g2⟩
end

/-! Grids. -/
structure G where
  W : Int
  H : Int
  S : Int
  ss : List (Int × Int)
deriving DecidableEq
def GridAt (w : World) (B : Nat) (x : Value) (g : G) : Prop := ∃ v, x = .agg #[.int .i64 g.W, .int .i64 g.H, .int .i64 g.S, v] ∧ SpansAt w B v g.ss
theorem GridAt.below {w w' : World} {B : Nat} {x : Value} {g : G} (h : GridAt w B x g) (hb : Below B w w') : GridAt w' B x g := by
  obtain ⟨v, e, hs⟩ := h
  exact ⟨v, e, hs.below hb⟩
theorem GridAt.more {w : World} {B B' : Nat} {x : Value} {g : G} (h : GridAt w B x g) (hb : B ≤ B') : GridAt w B' x g := by
  obtain ⟨v, e, hs⟩ := h
  exact ⟨v, e, hs.more hb⟩
theorem GridAt.later {w w' : World} {B : Nat} {x : Value} {g : G} (h : GridAt w B x g) (hb : Below B w w') (hB : B ≤ w.heap.size) : GridAt w' w'.heap.size x g := by
  obtain ⟨v, e, hs⟩ := h
  exact ⟨v, e, hs.later hb hB⟩
/-- 'w' grew out of w below w's own size', of three steps. -/
theorem Below.self_trans {a b c : World} (h : Below a.heap.size a b) (k : Below b.heap.size b c) : Below a.heap.size a c := h.trans (k.mono h.size)
theorem bcell {B : Nat} {W w1 : World} (hb : Below B W w1) : (∀ b o, b < B → w1.cell? ⟨b, o, none⟩ = W.cell? ⟨b, o, none⟩) ∧ (∀ b o, b < B → w1.frozen? ⟨b, o, none⟩ = W.frozen? ⟨b, o, none⟩) :=
  ⟨fun b o h => hb.cell (p := ⟨b, o, none⟩) h, fun b o h => hb.frozen (p := ⟨b, o, none⟩) h⟩
theorem Below.drewN' {B : Nat} {a w : World} (h : Below B a w) (n : Nat) : Below B a (w.drewN n) := ⟨h.os, h.tape, h.output, h.size, h.block⟩
theorem quiet_left {P : Program} {f : FuncId} {args : Array Value} {w : World} {n : Nat} {v : Value}
    (h : Calls P f args (w.drewN n) fun e w' => e = .returned v ∧ w.drewN n = w') : Calls P f args (w.drewN n) fun e w'' => e = .returned v ∧ ∃ m, w'' = w.drewN m :=
  h.mono fun _ _ ⟨he, hm⟩ => ⟨he, n, hm.symm⟩
theorem spanCells_set (l : List (Int × Int)) (k : Nat) (s : Int × Int) (h : k < l.length) : spanCells (l.set k s) = ((spanCells l).set (k * 2) (.int .i64 s.1)).set (k * 2 + 1) (.int .i64 s.2) := by
  induction l generalizing k with
  | nil => simp at h
  | cons x l ih =>
    cases k with
    | zero => simp [spanCells]
    | succ k =>
      have := ih k (by simpa using h)
      have e1 : (k + 1) * 2 = k * 2 + 2 := by omega
      simp only [spanCells, List.flatMap_cons, List.cons_append, List.nil_append, List.set_cons_succ] at this ⊢
      rw [e1]
      simp [this]
theorem madeCells_two (z : Value) (n : Nat) : (madeCells #[z, z] n).toList = List.replicate n z := by
  apply List.ext_getElem?
  intro j
  by_cases hj : j < n
  · have : j % 2 = 0 ∨ j % 2 = 1 := by omega
    rcases this with h | h <;> simp [madeCells, hj, h]
  · simp [madeCells, hj]
theorem spanCells_zero (n : Nat) : (madeCells #[.int .i64 0, .int .i64 0] (n * 2)).toList = spanCells (List.replicate n ((0 : Int), (0 : Int))) := by
  rw [madeCells_two]
  induction n with
  | zero => rfl
  | succ n ih =>
    have e1 : (n + 1) * 2 = n * 2 + 1 + 1 := by omega
    rw [e1, List.replicate_succ, List.replicate_succ, ih]
    simp [spanCells, List.replicate_succ]
section
variable {w : World} {base e g cap : Nat}
theorem own_spans_at {l : List (Int × Int)} {n : Nat} (h : w.ownsRow base e 2 (.slice (some ⟨g, 0, none⟩) n cap) n (spanCells l)) {k : Nat} (hk : k < l.length) :
    w.cell? ⟨g, k * 2, none⟩ = some (.int .i64 l[k].1) ∧ w.cell? ⟨g, k * 2 + 1, none⟩ = some (.int .i64 l[k].2) := by
  have hn := h.1
  rw [spanCells_length] at hn
  obtain ⟨h1, h2⟩ := spanCells_get l k hk
  exact ⟨(h.cellAt _ (by omega)).trans h1, (h.cellAt _ (by omega)).trans h2⟩
theorem own_spans_set {l : List (Int × Int)} {n : Nat} (h : w.ownsRow base e 2 (.slice (some ⟨g, 0, none⟩) n cap) n (spanCells l)) {k : Nat} (hk : k < l.length) (a b : Int) :
    ((w.setCell ⟨g, k * 2, none⟩ (.int .i64 a)).setCell ⟨g, k * 2 + 1, none⟩ (.int .i64 b)).ownsRow base e 2 (.slice (some ⟨g, 0, none⟩) n cap) n (spanCells (l.set k (a, b))) := by
  rw [spanCells_set l k (a, b) hk]
  exact ((h.stored (k * 2) (.int .i64 a)).1.stored (k * 2 + 1) (.int .i64 b)).1
end
theorem run_make_rowN {P : Program} (t e : TypeId) (i : TypeInfo) (z : Value) (ht : P.underlying t = some (.slice e)) (hi : P.info? e = some i) (hz : i.zero = some z)
    (kl kc : IntKind) (n c : Nat) (hnc : n ≤ c) (hbytes : i.bytes * c ≤ 281474976710656) (h63 : c ≤ 9223372036854775807) (w : World) :
    (Instr.makeSlice t (.int kl (n : Int)) (.int kc (c : Int))).run P w = .ok (.slice (some ⟨w.heap.size, 0, none⟩) n c) (w.alloc (.cells (madeCells z.cells (c * i.size)) e)) := by
  have hb : (i.bytes : Int) * (c : Int) ≤ 281474976710656 := by
    have h : ((i.bytes * c : Nat) : Int) ≤ 281474976710656 := by omega
    rwa [Int.natCast_mul] at h
  have hr := run_make (P := P) w t e i z ht hi hz kl kc n c (by omega) (by omega) hb (by omega)
  simp only [Int.toNat_natCast] at hr
  exact hr
theorem own_made (w : World) (e : TypeId) (z : Array Value) (n size base : Nat) (hb : base ≤ w.heap.size) (hn : n ≤ 65536) :
    (w.alloc (.cells (madeCells z (n * size)) e)).ownsRow base e size (.slice (some ⟨w.heap.size, 0, none⟩) n n) n (madeCells z (n * size)).toList :=
  World.ownsRow_lit w (madeCells z (n * size)) n hb (by unfold maxLen; omega) (size_madeCells _ _)
theorem add_i64 {a b : Int} (h : a = b) : Value.int .i64 a = Value.int .i64 b := by rw [h]
theorem ret_int {k : IntKind} {a b : Int} (h : a = b) : Ending.returned (.int k a) = .returned (.int k b) := by rw [h]
theorem ret_bool {a b : Bool} (h : a = b) : Ending.returned (.bool a) = .returned (.bool b) := by rw [h]
theorem hid_not {p : Bool} (h : ¬ p = true) : Hid (p = false) := by simpa [Hid] using h
theorem take_snoc {α : Type} (l : List α) (k : Nat) (h : k < l.length) : l.take (k + 1) = l.take k ++ [l[k]] := by
  rw [List.take_succ_eq_append_getElem h]
end Go.Proofs.YthcenmocnphnmaaGreatDoor
/-
  Contracts of the smallest functions of package grid and of its reference.
-/
namespace Go.Proofs.YthcenmocnphnmaaGreatDoor
open Go.RowKit

/-! within, Within -/
theorem within_yes (n l g : Int) (w : World) (h1 : l ≤ n) (h2 : n ≤ g) :
    Calls Tryz.prog 55 #[.int .i64 n, .int .i64 l, .int .i64 g] w fun e w' => e = .returned (.bool true) ∧ w = w' := by
  go_enter Tryz.func55, Tryz.ntmps55
  go_wp2
  go_ret
  exact ⟨rfl, rfl⟩
theorem within_no (n l g : Int) (w : World) (h : n < l ∨ g < n) :
    Calls Tryz.prog 55 #[.int .i64 n, .int .i64 l, .int .i64 g] w fun e w' => e = .returned (.bool false) ∧ w = w' := by
  by_cases h1 : n < l
  · go_enter Tryz.func55, Tryz.ntmps55
    go_wp2
    go_ret
    exact ⟨rfl, rfl⟩
  · have h2 : g < n := by omega
    have h3 : l ≤ n := by omega
    clear h
    go_enter Tryz.func55, Tryz.ntmps55
    go_wp2
    go_ret
    exact ⟨ret_bool (by simp; omega), rfl⟩
theorem within_any (n l g : Int) (w : World) :
    Calls Tryz.prog 55 #[.int .i64 n, .int .i64 l, .int .i64 g] w fun e w' => e = .returned (.bool (decide (l ≤ n ∧ n ≤ g))) ∧ w = w' := by
  by_cases h : l ≤ n ∧ n ≤ g
  · exact (within_yes n l g w h.1 h.2).mono fun e w' ⟨a, b⟩ => ⟨by rw [a]; simp [h], b⟩
  · exact (within_no n l g w (by omega)).mono fun e w' ⟨a, b⟩ => ⟨by rw [a]; simp [h], b⟩
theorem rWithin_yes (n l g : Int) (w : World) (h1 : l ≤ n) (h2 : n ≤ g) :
    Calls Tryz.prog 53 #[.int .i64 n, .int .i64 l, .int .i64 g] w fun e w' => e = .returned (.bool true) ∧ w = w' := by
  go_enter Tryz.func53, Tryz.ntmps53
  go_wp2
  go_ret
  exact ⟨rfl, rfl⟩
theorem rWithin_no (n l g : Int) (w : World) (h : n < l ∨ g < n) :
    Calls Tryz.prog 53 #[.int .i64 n, .int .i64 l, .int .i64 g] w fun e w' => e = .returned (.bool false) ∧ w = w' := by
  by_cases h1 : n < l
  · go_enter Tryz.func53, Tryz.ntmps53
    go_wp2
    go_ret
    exact ⟨rfl, rfl⟩
  · have h2 : g < n := by omega
    have h3 : l ≤ n := by omega
    clear h
    go_enter Tryz.func53, Tryz.ntmps53
    go_wp2
    go_ret
    exact ⟨ret_bool (by simp; omega), rfl⟩
theorem rWithin_any (n l g : Int) (w : World) :
    Calls Tryz.prog 53 #[.int .i64 n, .int .i64 l, .int .i64 g] w fun e w' => e = .returned (.bool (decide (l ≤ n ∧ n ≤ g))) ∧ w = w' := by
  by_cases h : l ≤ n ∧ n ≤ g
  · exact (rWithin_yes n l g w h.1 h.2).mono fun e w' ⟨a, b⟩ => ⟨by rw [a]; simp [h], b⟩
  · exact (rWithin_no n l g w (by omega)).mono fun e w' ⟨a, b⟩ => ⟨by rw [a]; simp [h], b⟩

/-! isSpanWithin -/
def okSpan (lim : Int) (s : Int × Int) : Bool := decide (s.1 ≤ s.2 ∧ -lim ≤ s.1 ∧ s.2 ≤ lim)
theorem isSpan_any (lo hi lim : Int) (w : World) (hl : -4611686018427387904 ≤ lim) (hl' : lim ≤ 4611686018427387904) :
    Calls Tryz.prog 56 #[.agg #[.int .i64 lo, .int .i64 hi], .int .i64 lim] w fun e w' => e = .returned (.bool (okSpan lim (lo, hi))) ∧ Below w.heap.size w w' := by
  by_cases h1 : lo ≤ hi
  · by_cases h2 : -lim ≤ lo
    · go_enter Tryz.func56, Tryz.ntmps56
      go_wp2
      go_ret
      exact ⟨ret_bool (by simp [okSpan, h1, h2]), (Below.refl _ _).alloc (Nat.le_refl _) _⟩
    · go_enter Tryz.func56, Tryz.ntmps56
      go_wp2
      go_ret
      exact ⟨ret_bool (by simp [okSpan]; omega), (Below.refl _ _).alloc (Nat.le_refl _) _⟩
  · go_enter Tryz.func56, Tryz.ntmps56
    go_wp2
    go_ret
    exact ⟨ret_bool (by simp [okSpan]; omega), (Below.refl _ _).alloc (Nat.le_refl _) _⟩
theorem isSpan_of {lo hi lim : Int} (b : Bool) (hb : okSpan lim (lo, hi) = b) (w : World) (hl : -4611686018427387904 ≤ lim) (hl' : lim ≤ 4611686018427387904) :
    Calls Tryz.prog 56 #[.agg #[.int .i64 lo, .int .i64 hi], .int .i64 lim] w fun e w' => e = .returned (.bool b) ∧ Below w.heap.size w w' := by
  subst hb
  exact isSpan_any lo hi lim w hl hl'

/-! isEmpty, common, withGround -/
theorem isEmpty_any (lo hi : Int) (w : World) :
    Calls Tryz.prog 66 #[.agg #[.int .i64 lo, .int .i64 hi]] w fun e w' => e = .returned (.bool (decide (hi < lo))) ∧ Below w.heap.size w w' := by
  go_enter Tryz.func66, Tryz.ntmps66
  go_wp2
  go_ret
  exact ⟨rfl, (Below.refl _ _).alloc (Nat.le_refl _) _⟩
theorem common_any (a b c d : Int) (w : World) :
    Calls Tryz.prog 65 #[.agg #[.int .i64 a, .int .i64 b], .agg #[.int .i64 c, .int .i64 d]] w fun e w' => e = .returned (.agg #[.int .i64 (max a c), .int .i64 (min b d)]) ∧ Below w.heap.size w w' := by
  go_enter Tryz.func65, Tryz.ntmps65
  go_wp2
  all_goals
    refine bodyPost_ret (v := .agg #[.int .i64 (max a c), .int .i64 (min b d)]) (by simp [results, Tryz.results65, go_sem]; omega) rfl ⟨rfl, ?_⟩
    exact (by repeat (first | exact Below.refl _ _ | assumption | refine Below.drew ?_ | refine Below.drewN' ?_ _ | (refine Below.alloc ?_ (by simp <;> omega) _) | (refine Below.setCell ?_ (by simp <;> omega) _)))
theorem withGround_any (a b c : Int) (v : Value) (A : Option Addr) (n m : Nat) (w : World) :
    Calls Tryz.prog 67 #[.agg #[.int .i64 a, .int .i64 b, .int .i64 c, v], .slice A n m] w fun e w' => e = .returned (.agg #[.int .i64 a, .int .i64 b, .int .i64 c, .slice A n m]) ∧ Below w.heap.size w w' := by
  go_enter Tryz.func67, Tryz.ntmps67
  go_wp2
  refine bodyPost_ret (v := .agg #[.int .i64 a, .int .i64 b, .int .i64 c, .slice A n m]) (by simp [results, Tryz.results67, go_sem]) rfl ⟨rfl, ?_⟩
  exact (by repeat (first | exact Below.refl _ _ | assumption | refine Below.drew ?_ | refine Below.drewN' ?_ _ | (refine Below.alloc ?_ (by simp <;> omega) _) | (refine Below.setCell ?_ (by simp <;> omega) _)))
theorem large_any (x : Value) (g : G) (w : World) (hg : GridAt w w.heap.size x g) :
    Calls Tryz.prog 19 #[x] w fun e w' => e = .returned (.bool (decide (60 < g.ss.length))) ∧ Below w.heap.size w w' := by
  obtain ⟨v, rfl, hs⟩ := hg
  obtain ⟨A, c, rfl, hc, hm⟩ := hs.open_
  go_enter Tryz.func19, Tryz.ntmps19
  go_wp2
  go_ret
  exact ⟨ret_bool (by rw [Bool.eq_iff_iff]; simp <;> omega), (Below.refl _ _).alloc (Nat.le_refl _) _⟩
theorem hasCell_any (x : Value) (g : G) (cell : Int) (w : World) (hg : GridAt w w.heap.size x g) :
    Calls Tryz.prog 50 #[x, .int .i64 cell] w fun e w' => e = .returned (.bool (decide (0 ≤ cell ∧ cell < g.ss.length))) ∧ Below w.heap.size w w' := by
  obtain ⟨v, rfl, hs⟩ := hg
  obtain ⟨A, c, rfl, hc, hm⟩ := hs.open_
  go_enter Tryz.func50, Tryz.ntmps50
  go_wp2_with (go_at_call 55; refine (within_any _ _ _ _).mono ?_; rintro e w' ⟨rfl, rfl⟩)
  go_ret
  exact ⟨ret_bool (by rw [Bool.eq_iff_iff]; simp <;> omega), (Below.refl _ _).alloc (Nat.le_refl _) _⟩
end Go.Proofs.YthcenmocnphnmaaGreatDoor
/-
  Contracts of Check, of both packages, and of the comparisons of lists in the statements.
-/
namespace Go.Proofs.YthcenmocnphnmaaGreatDoor
open Go.RowKit

def rngG (g : G) : Bool := decide (1 ≤ g.W ∧ g.W ≤ 24 ∧ 1 ≤ g.H ∧ g.H ≤ 24 ∧ 1 ≤ g.S ∧ g.S ≤ 10000)
def checkE (g : G) : Int := if rngG g then (if (g.ss.length : Int) = g.W * g.H then (if g.ss.all (okSpan 1200000) then 0 else 3) else 11) else 3

theorem mul_rng {a b : Int} (h1 : 1 ≤ a) (h2 : a ≤ 24) (h3 : 1 ≤ b) (h4 : b ≤ 24) : 1 ≤ a * b ∧ a * b ≤ 576 := by
  have : a * b ≤ 24 * 24 := Int.le_trans (Int.mul_le_mul_of_nonneg_right h2 (by omega)) (Int.mul_le_mul_of_nonneg_left h4 (by omega))
  have h5 : 1 * 1 ≤ a * b := Int.le_trans (Int.mul_le_mul_of_nonneg_right h1 (by omega)) (Int.mul_le_mul_of_nonneg_left h3 (by omega))
  omega
theorem all_snoc {α : Type} (p : α → Bool) (l : List α) (k : Nat) (h : k < l.length) (ht : (l.take k).all p = true) (hp : p l[k] = true) : (l.take (k + 1)).all p = true := by
  rw [take_snoc l k h, List.all_append, ht]; simp [hp]
theorem all_false {α : Type} (p : α → Bool) (l : List α) (k : Nat) (h : k < l.length) (hp : p l[k] = false) : l.all p = false := by
  rw [List.all_eq_false]; exact ⟨l[k], List.getElem_mem h, by simp [hp]⟩

set_option maxHeartbeats 1000000 in
theorem check_any (x : Value) (g : G) (w : World) (hg : GridAt w w.heap.size x g) :
    Calls Tryz.prog 16 #[x] w fun e w' => e = .returned (.int .i64 (checkE g)) ∧ Below w.heap.size w w' := by
  obtain ⟨v, rfl, hs⟩ := hg
  obtain ⟨A, c, rfl, hc, hm⟩ := hs.open_
  obtain ⟨W, H, S, ss⟩ := g
  simp only at hs hc hm ⊢
  by_cases hW : 1 ≤ W ∧ W ≤ 24
  case neg =>
    have he : checkE ⟨W, H, S, ss⟩ = 3 := by simp only [checkE, rngG]; rw [if_neg (by simp; omega)]
    rw [he]; clear he
    go_enter Tryz.func16, Tryz.ntmps16
    go_wp2_with (go_at_call 55; refine (within_no _ _ _ _ (by omega)).mono ?_; rintro e w' ⟨rfl, rfl⟩)
    go_ret
    exact ⟨rfl, (by repeat (first | exact Below.refl _ _ | assumption | refine Below.drew ?_ | refine Below.drewN' ?_ _ | (refine Below.alloc ?_ (by simp <;> omega) _) | (refine Below.setCell ?_ (by simp <;> omega) _)))⟩
  obtain ⟨hW1, hW2⟩ := hW
  by_cases hH : 1 ≤ H ∧ H ≤ 24
  case neg =>
    have he : checkE ⟨W, H, S, ss⟩ = 3 := by simp only [checkE, rngG]; rw [if_neg (by simp; omega)]
    rw [he]; clear he
    go_enter Tryz.func16, Tryz.ntmps16
    go_wp2_with (go_at_call 55; first | (refine (within_yes _ _ _ _ (by omega) (by omega)).mono ?_; rintro e w' ⟨rfl, rfl⟩) | (refine (within_no _ _ _ _ (by omega)).mono ?_; rintro e w' ⟨rfl, rfl⟩))
    go_ret
    exact ⟨rfl, (by repeat (first | exact Below.refl _ _ | assumption | refine Below.drew ?_ | refine Below.drewN' ?_ _ | (refine Below.alloc ?_ (by simp <;> omega) _) | (refine Below.setCell ?_ (by simp <;> omega) _)))⟩
  obtain ⟨hH1, hH2⟩ := hH
  by_cases hS : 1 ≤ S ∧ S ≤ 10000
  case neg =>
    have he : checkE ⟨W, H, S, ss⟩ = 3 := by simp only [checkE, rngG]; rw [if_neg (by simp; omega)]
    rw [he]; clear he
    go_enter Tryz.func16, Tryz.ntmps16
    go_wp2_with (go_at_call 55; first | (refine (within_yes _ _ _ _ (by omega) (by omega)).mono ?_; rintro e w' ⟨rfl, rfl⟩) | (refine (within_no _ _ _ _ (by omega)).mono ?_; rintro e w' ⟨rfl, rfl⟩))
    go_ret
    exact ⟨rfl, (by repeat (first | exact Below.refl _ _ | assumption | refine Below.drew ?_ | refine Below.drewN' ?_ _ | (refine Below.alloc ?_ (by simp <;> omega) _) | (refine Below.setCell ?_ (by simp <;> omega) _)))⟩
  obtain ⟨hS1, hS2⟩ := hS
  have hrng : rngG ⟨W, H, S, ss⟩ = true := by simp [rngG]; omega
  obtain ⟨hm1, hm2⟩ := mul_rng hW1 hW2 hH1 hH2
  by_cases hl : (ss.length : Int) = W * H
  case neg =>
    have he : checkE ⟨W, H, S, ss⟩ = 11 := by simp only [checkE, hrng, if_true]; rw [if_neg hl]
    rw [he]; clear he
    have hne : ((ss.length : Int) != W * H) = true := by simpa using hl
    clear hl hrng
    go_enter Tryz.func16, Tryz.ntmps16
    go_wp2_with (go_at_call 55; refine (within_yes _ _ _ _ (by omega) (by omega)).mono ?_; rintro e w' ⟨rfl, rfl⟩)
    go_ret
    exact ⟨rfl, (by repeat (first | exact Below.refl _ _ | assumption | refine Below.drew ?_ | refine Below.drewN' ?_ _ | (refine Below.alloc ?_ (by simp <;> omega) _) | (refine Below.setCell ?_ (by simp <;> omega) _)))⟩
  have he : checkE ⟨W, H, S, ss⟩ = if ss.all (okSpan 1200000) then 0 else 3 := by simp only [checkE, hrng, if_true]; rw [if_pos hl]
  have He := Lib.hid he
  clear he
  have hne : ((ss.length : Int) != W * H) = false := by simpa using hl
  clear hl hrng
  go_enter Tryz.func16, Tryz.ntmps16
  go_wp2_with (go_at_call 55; refine (within_yes _ _ _ _ (by omega) (by omega)).mono ?_; rintro e w' ⟨rfl, rfl⟩)
  go_loopw [33] (fun i wr => ∃ k : Nat, k ≤ ss.length ∧ i = .int .i64 k ∧ (ss.take k).all (okSpan 1200000) = true ∧ Below w.heap.size w wr) (fun i _ => ss.length - (intOf i).toNat)
  case atStart => exact ⟨0, Nat.zero_le _, rfl, by simp, (by repeat (first | exact Below.refl _ _ | assumption | refine Below.drew ?_ | refine Below.drewN' ?_ _ | (refine Below.alloc ?_ (by simp <;> omega) _) | (refine Below.setCell ?_ (by simp <;> omega) _)))⟩
  case round =>
    obtain ⟨k, hk, rfl, hall, hBr⟩ := hrel
    have Hall := Lib.hid hall
    clear hall
    by_cases hlt : k < ss.length
    · obtain ⟨b, off, rfl, hb, c1, c2⟩ := (hs.below hBr).at_ hlt
      generalize hq : ss[k] = q at *
      obtain ⟨lo, hi⟩ := q
      have Hq := Lib.hid hq
      clear hq
      simp only at c1 c2
      by_cases hok : okSpan 1200000 (lo, hi) = true
      · have Hok := Lib.hid hok
        clear hok
        go_wp2_with (go_at_call 56; refine (isSpan_of true Hok.out _ (by omega) (by omega)).mono ?_; rintro e w1 ⟨rfl, hb1⟩)
        have hB1 : Below w.heap.size w w1 := (hBr.alloc hBr.size _).trans (hb1.mono (by simp; have := hBr.size; omega))
        go_roundw
        case rel => exact ⟨k + 1, by omega, by go_num, all_snoc _ _ _ hlt Hall.out (by rw [Hq.out]; exact Hok.out), hB1⟩
        case measure => simp [intOf]; omega
      · have Hok : Hid (okSpan 1200000 (lo, hi) = false) := by simpa [Hid] using hok
        clear hok
        have Hf := Lib.hid (all_false (okSpan 1200000) ss k hlt (by rw [Hq.out]; exact Hok.out))
        go_wp2_with (go_at_call 56; refine (isSpan_of false Hok.out _ (by omega) (by omega)).mono ?_; rintro e w1 ⟨rfl, hb1⟩)
        have hB1 : Below w.heap.size w w1 := (hBr.alloc hBr.size _).trans (hb1.mono (by simp; have := hBr.size; omega))
        go_ret
        exact ⟨ret_int (by rw [He.out, Hf.out]; rfl), hB1⟩
    · have hk' : k = ss.length := by omega
      have Hf : Hid (ss.all (okSpan 1200000) = true) := by
        have := Hall.out
        rw [hk', List.take_length] at this
        exact this
      clear hk'
      go_wp2
      go_ret
      exact ⟨ret_int (by rw [He.out, Hf.out]; rfl), hBr⟩
end Go.Proofs.YthcenmocnphnmaaGreatDoor
/-
  Contracts of the reference's Check, of both checks of a sea, and of the comparisons of lists in the statements.
-/
namespace Go.Proofs.YthcenmocnphnmaaGreatDoor
open Go.RowKit

set_option maxHeartbeats 1000000 in
theorem rCheck_any (x : Value) (g : G) (w : World) (hg : GridAt w w.heap.size x g) :
    Calls Tryz.prog 17 #[x] w fun e w' => e = .returned (.int .i64 (checkE g)) ∧ Below w.heap.size w w' := by
  obtain ⟨v, rfl, hs⟩ := hg
  obtain ⟨A, c, rfl, hc, hm⟩ := hs.open_
  obtain ⟨W, H, S, ss⟩ := g
  simp only at hs hc hm ⊢
  by_cases hW : 1 ≤ W ∧ W ≤ 24
  case neg =>
    have he : checkE ⟨W, H, S, ss⟩ = 3 := by simp only [checkE, rngG]; rw [if_neg (by simp; omega)]
    rw [he]; clear he
    go_enter Tryz.func17, Tryz.ntmps17
    go_wp2_with (go_at_call 53; refine (rWithin_no _ _ _ _ (by omega)).mono ?_; rintro e w' ⟨rfl, rfl⟩)
    go_ret
    exact ⟨rfl, (by repeat (first | exact Below.refl _ _ | assumption | refine Below.drew ?_ | refine Below.drewN' ?_ _ | (refine Below.alloc ?_ (by simp <;> omega) _) | (refine Below.setCell ?_ (by simp <;> omega) _)))⟩
  obtain ⟨hW1, hW2⟩ := hW
  by_cases hH : 1 ≤ H ∧ H ≤ 24
  case neg =>
    have he : checkE ⟨W, H, S, ss⟩ = 3 := by simp only [checkE, rngG]; rw [if_neg (by simp; omega)]
    rw [he]; clear he
    go_enter Tryz.func17, Tryz.ntmps17
    go_wp2_with (go_at_call 53; first | (refine (rWithin_yes _ _ _ _ (by omega) (by omega)).mono ?_; rintro e w' ⟨rfl, rfl⟩) | (refine (rWithin_no _ _ _ _ (by omega)).mono ?_; rintro e w' ⟨rfl, rfl⟩))
    go_ret
    exact ⟨rfl, (by repeat (first | exact Below.refl _ _ | assumption | refine Below.drew ?_ | refine Below.drewN' ?_ _ | (refine Below.alloc ?_ (by simp <;> omega) _) | (refine Below.setCell ?_ (by simp <;> omega) _)))⟩
  obtain ⟨hH1, hH2⟩ := hH
  by_cases hS : 1 ≤ S ∧ S ≤ 10000
  case neg =>
    have he : checkE ⟨W, H, S, ss⟩ = 3 := by simp only [checkE, rngG]; rw [if_neg (by simp; omega)]
    rw [he]; clear he
    go_enter Tryz.func17, Tryz.ntmps17
    go_wp2_with (go_at_call 53; first | (refine (rWithin_yes _ _ _ _ (by omega) (by omega)).mono ?_; rintro e w' ⟨rfl, rfl⟩) | (refine (rWithin_no _ _ _ _ (by omega)).mono ?_; rintro e w' ⟨rfl, rfl⟩))
    go_ret
    exact ⟨rfl, (by repeat (first | exact Below.refl _ _ | assumption | refine Below.drew ?_ | refine Below.drewN' ?_ _ | (refine Below.alloc ?_ (by simp <;> omega) _) | (refine Below.setCell ?_ (by simp <;> omega) _)))⟩
  obtain ⟨hS1, hS2⟩ := hS
  have hrng : rngG ⟨W, H, S, ss⟩ = true := by simp [rngG]; omega
  obtain ⟨hm1, hm2⟩ := mul_rng hW1 hW2 hH1 hH2
  by_cases hl : (ss.length : Int) = W * H
  case neg =>
    have he : checkE ⟨W, H, S, ss⟩ = 11 := by simp only [checkE, hrng, if_true]; rw [if_neg hl]
    rw [he]; clear he
    have hne : ((ss.length : Int) != W * H) = true := by simpa using hl
    clear hl hrng
    go_enter Tryz.func17, Tryz.ntmps17
    go_wp2_with (go_at_call 53; refine (rWithin_yes _ _ _ _ (by omega) (by omega)).mono ?_; rintro e w' ⟨rfl, rfl⟩)
    go_ret
    exact ⟨rfl, (by repeat (first | exact Below.refl _ _ | assumption | refine Below.drew ?_ | refine Below.drewN' ?_ _ | (refine Below.alloc ?_ (by simp <;> omega) _) | (refine Below.setCell ?_ (by simp <;> omega) _)))⟩
  have he : checkE ⟨W, H, S, ss⟩ = if ss.all (okSpan 1200000) then 0 else 3 := by simp only [checkE, hrng, if_true]; rw [if_pos hl]
  have He := Lib.hid he
  clear he
  have hne : ((ss.length : Int) != W * H) = false := by simpa using hl
  clear hl hrng
  have hbs : ∀ wr : World, Below (w.heap.size + 1) (w.alloc (.cells #[.int .i64 W, .int .i64 H, .int .i64 S, .slice A ss.length c] 24)) wr → wr.cell? ⟨w.heap.size, 3, none⟩ = some (.slice A ss.length c) := by
    intro wr h
    rw [h.cell (p := ⟨w.heap.size, 3, none⟩) (by simp)]
    simp
  have Hbs := Lib.hid hbs
  clear hbs
  go_enter Tryz.func17, Tryz.ntmps17
  go_wp2_with (go_at_call 53; refine (rWithin_yes _ _ _ _ (by omega) (by omega)).mono ?_; rintro e w' ⟨rfl, rfl⟩)
  go_loopw [3] (fun i wr => ∃ k : Nat, k ≤ ss.length ∧ i = .int .i64 k ∧ (ss.take k).all (okSpan 1200000) = true ∧ Below (w.heap.size + 1) (w.alloc (.cells #[.int .i64 W, .int .i64 H, .int .i64 S, .slice A ss.length c] 24)) wr) (fun i _ => ss.length - (intOf i).toNat)
  case atStart => exact ⟨0, Nat.zero_le _, rfl, by simp, Below.refl _ _⟩
  case round =>
    obtain ⟨k, hk, rfl, hall, hB0⟩ := hrel
    have hcs := Hbs.out _ hB0
    have hsz := hB0.size
    simp only [World.size_alloc] at hsz
    have hBr : Below w.heap.size w wr := ((Below.refl _ w).alloc (Nat.le_refl _) _).trans (hB0.mono (by omega))
    have Hall := Lib.hid hall
    clear hall
    by_cases hlt : k < ss.length
    · obtain ⟨b, off, rfl, hb, c1, c2⟩ := (hs.below hBr).at_ hlt
      generalize hq : ss[k] = q at *
      obtain ⟨lo, hi⟩ := q
      have Hq := Lib.hid hq
      clear hq
      simp only at c1 c2
      have HB0 := Lib.hid hB0
      clear hB0 Hbs
      by_cases h1 : lo ≤ hi
      · by_cases h2 : -1200000 ≤ lo
        · by_cases h3 : hi ≤ 1200000
          · have Hok : Hid (okSpan 1200000 (lo, hi) = true) := by simp [Hid, okSpan]; omega
            go_wp2
            go_roundw
            case rel => exact ⟨k + 1, by omega, by go_num, all_snoc _ _ _ hlt Hall.out (by rw [Hq.out]; exact Hok.out), HB0.out.alloc (by omega) _⟩
            case measure => simp [intOf]; omega
          · have Hok : okSpan 1200000 (lo, hi) = false := by simp [okSpan]; omega
            have Hf := Lib.hid (all_false (okSpan 1200000) ss k hlt (by rw [Hq.out]; exact Hok))
            clear Hok
            go_wp2
            go_ret
            exact ⟨ret_int (by rw [He.out, Hf.out]; rfl), hBr.alloc (by omega) _⟩
        · have Hok : okSpan 1200000 (lo, hi) = false := by simp [okSpan]; omega
          have Hf := Lib.hid (all_false (okSpan 1200000) ss k hlt (by rw [Hq.out]; exact Hok))
          clear Hok
          go_wp2
          go_ret
          exact ⟨ret_int (by rw [He.out, Hf.out]; rfl), hBr.alloc (by omega) _⟩
      · have Hok : okSpan 1200000 (lo, hi) = false := by simp [okSpan]; omega
        have Hf := Lib.hid (all_false (okSpan 1200000) ss k hlt (by rw [Hq.out]; exact Hok))
        clear Hok
        go_wp2
        go_ret
        exact ⟨ret_int (by rw [He.out, Hf.out]; rfl), hBr.alloc (by omega) _⟩
    · have hk' : k = ss.length := by omega
      have Hf : Hid (ss.all (okSpan 1200000) = true) := by
        have := Hall.out
        rw [hk', List.take_length] at this
        exact this
      clear hk'
      go_wp2
      go_ret
      exact ⟨ret_int (by rw [He.out, Hf.out]; rfl), hBr⟩

/-! numbers, spans, bools, grids -/
theorem beq_take_snoc {α : Type} [BEq α] [LawfulBEq α] (l m : List α) (k : Nat) (h : k < l.length) (h' : k < m.length) (ht : l.take k = m.take k) (he : l[k] = m[k]) : l.take (k + 1) = m.take (k + 1) := by
  rw [take_snoc l k h, take_snoc m k h', ht, he]
theorem ne_of_get {α : Type} {l m : List α} {k : Nat} {h : k < l.length} {h' : k < m.length} (he : l[k] ≠ m[k]) : l ≠ m := by
  rintro rfl
  exact he rfl

theorem numbers_any (a b : Value) (l m : List Int) (w : World) (ha : IntsAt w w.heap.size a l) (hb : IntsAt w w.heap.size b m) :
    Calls Tryz.prog 18 #[a, b] w fun e w' => e = .returned (.bool (decide (l = m))) ∧ Below w.heap.size w w' := by
  obtain ⟨A, c, rfl, hc, hm⟩ := ha.open_
  obtain ⟨A', c', rfl, hc', hm'⟩ := hb.open_
  by_cases hl : l.length = m.length
  case neg =>
    have hne : ((l.length : Int) != m.length) = true := by simp; omega
    have He : Hid (decide (l = m) = false) := by
      simp only [Hid, decide_eq_false_iff_not]
      rintro rfl
      exact hl rfl
    clear hl
    go_enter Tryz.func18, Tryz.ntmps18
    go_wp2
    go_ret
    exact ⟨ret_bool He.out.symm, Below.refl _ _⟩
  have hne : ((l.length : Int) != m.length) = false := by simp; omega
  have Hl := Lib.hid hl
  have hl1 : l.length ≤ m.length := by omega
  have hl2 : m.length ≤ l.length := by omega
  clear hl
  go_enter Tryz.func18, Tryz.ntmps18
  go_wp2
  go_loopw [5] (fun i wr => ∃ k : Nat, k ≤ l.length ∧ i = .int .i64 k ∧ Hid (l.take k = m.take k) ∧ Below w.heap.size w wr) (fun i _ => l.length - (intOf i).toNat)
  case atStart => exact ⟨0, Nat.zero_le _, rfl, by simp [Hid], Below.refl _ _⟩
  case round =>
    obtain ⟨k, hk, rfl, Ht, hBr⟩ := hrel
    by_cases hlt : k < l.length
    · obtain ⟨b1, off1, rfl, hb1, c1⟩ := (ha.below hBr).at_ hlt
      obtain ⟨b2, off2, rfl, hb2, c2⟩ := (hb.below hBr).at_ (k := k) (by omega)
      have hlt' : k < m.length := by omega
      by_cases hx : l[k] = m[k]
      · have hx' : (l[k] != m[k]) = false := by simp [hx]
        have HX := Lib.hid hx
        clear hx
        go_wp2
        go_quiet (fail)
        go_wp2
        go_roundw
        case rel => exact ⟨k + 1, by omega, by go_num, beq_take_snoc l m k hlt hlt' Ht.out HX.out, (by repeat (first | exact Below.refl _ _ | assumption | refine Below.drew ?_ | refine Below.drewN' ?_ _ | (refine Below.alloc ?_ (by simp <;> omega) _) | (refine Below.setCell ?_ (by simp <;> omega) _)))⟩
        case measure => simp [intOf]; omega
      · have hx' : (l[k] != m[k]) = true := by simp [hx]
        have HX : Hid (decide (l = m) = false) := by simpa [Hid] using ne_of_get hx
        clear hx
        go_wp2
        go_quiet (fail)
        go_wp2
        go_ret
        exact ⟨ret_bool HX.out.symm, (by repeat (first | exact Below.refl _ _ | assumption | refine Below.drew ?_ | refine Below.drewN' ?_ _ | (refine Below.alloc ?_ (by simp <;> omega) _) | (refine Below.setCell ?_ (by simp <;> omega) _)))⟩
    · have hk' : k = l.length := by omega
      have Hf : Hid (decide (l = m) = true) := by
        have := Ht.out
        rw [hk', List.take_length, Hl.out, List.take_length] at this
        simpa [Hid] using this
      clear hk'
      go_wp2
      go_ret
      exact ⟨ret_bool Hf.out.symm, hBr⟩
theorem bools_any (a b : Value) (l m : List Bool) (w : World) (ha : BoolsAt w w.heap.size a l) (hb : BoolsAt w w.heap.size b m) :
    Calls Tryz.prog 25 #[a, b] w fun e w' => e = .returned (.bool (decide (l = m))) ∧ Below w.heap.size w w' := by
  obtain ⟨A, c, rfl, hc, hm⟩ := ha.open_
  obtain ⟨A', c', rfl, hc', hm'⟩ := hb.open_
  by_cases hl : l.length = m.length
  case neg =>
    have hne : ((l.length : Int) != m.length) = true := by simp; omega
    have He : Hid (decide (l = m) = false) := by
      simp only [Hid, decide_eq_false_iff_not]
      rintro rfl
      exact hl rfl
    clear hl
    go_enter Tryz.func25, Tryz.ntmps25
    go_wp2
    go_ret
    exact ⟨ret_bool He.out.symm, Below.refl _ _⟩
  have hne : ((l.length : Int) != m.length) = false := by simp; omega
  have Hl := Lib.hid hl
  have hl1 : l.length ≤ m.length := by omega
  have hl2 : m.length ≤ l.length := by omega
  clear hl
  go_enter Tryz.func25, Tryz.ntmps25
  go_wp2
  go_loopw [5] (fun i wr => ∃ k : Nat, k ≤ l.length ∧ i = .int .i64 k ∧ Hid (l.take k = m.take k) ∧ Below w.heap.size w wr) (fun i _ => l.length - (intOf i).toNat)
  case atStart => exact ⟨0, Nat.zero_le _, rfl, by simp [Hid], Below.refl _ _⟩
  case round =>
    obtain ⟨k, hk, rfl, Ht, hBr⟩ := hrel
    by_cases hlt : k < l.length
    · obtain ⟨b1, off1, rfl, hb1, c1⟩ := (ha.below hBr).at_ hlt
      obtain ⟨b2, off2, rfl, hb2, c2⟩ := (hb.below hBr).at_ (k := k) (by omega)
      have hlt' : k < m.length := by omega
      by_cases hx : l[k] = m[k]
      · have hx' : (!(l[k] == m[k])) = false := by simp [hx]
        have HX := Lib.hid hx
        clear hx
        go_wp2
        go_quiet (fail)
        go_wp2
        go_roundw
        case rel => exact ⟨k + 1, by omega, by go_num, beq_take_snoc l m k hlt hlt' Ht.out HX.out, (by repeat (first | exact Below.refl _ _ | assumption | refine Below.drew ?_ | refine Below.drewN' ?_ _ | (refine Below.alloc ?_ (by simp <;> omega) _) | (refine Below.setCell ?_ (by simp <;> omega) _)))⟩
        case measure => simp [intOf]; omega
      · have hx' : (!(l[k] == m[k])) = true := by simp [hx]
        have HX : Hid (decide (l = m) = false) := by simpa [Hid] using ne_of_get hx
        clear hx
        go_wp2
        go_quiet (fail)
        go_wp2
        go_ret
        exact ⟨ret_bool HX.out.symm, (by repeat (first | exact Below.refl _ _ | assumption | refine Below.drew ?_ | refine Below.drewN' ?_ _ | (refine Below.alloc ?_ (by simp <;> omega) _) | (refine Below.setCell ?_ (by simp <;> omega) _)))⟩
    · have hk' : k = l.length := by omega
      have Hf : Hid (decide (l = m) = true) := by
        have := Ht.out
        rw [hk', List.take_length, Hl.out, List.take_length] at this
        simpa [Hid] using this
      clear hk'
      go_wp2
      go_ret
      exact ⟨ret_bool Hf.out.symm, hBr⟩
theorem span_stood : Tryz.prog.stoodInHeld 34 = false := by kernel_rfl
theorem span_guard : Tryz.prog.eqGuardType Tryz.prog.depth 34 = false := by kernel_rfl
theorem spans_any (a b : Value) (l m : List (Int × Int)) (w : World) (ha : SpansAt w w.heap.size a l) (hb : SpansAt w w.heap.size b m) :
    Calls Tryz.prog 22 #[a, b] w fun e w' => e = .returned (.bool (decide (l = m))) ∧ Below w.heap.size w w' := by
  obtain ⟨A, c, rfl, hc, hm⟩ := ha.open_
  obtain ⟨A', c', rfl, hc', hm'⟩ := hb.open_
  have hp1 := span_stood
  have hp2 := span_guard
  by_cases hl : l.length = m.length
  case neg =>
    have hne : ((l.length : Int) != m.length) = true := by simp; omega
    have He : Hid (decide (l = m) = false) := by
      simp only [Hid, decide_eq_false_iff_not]
      rintro rfl
      exact hl rfl
    clear hl
    go_enter Tryz.func22, Tryz.ntmps22
    go_wp2
    go_ret
    exact ⟨ret_bool He.out.symm, Below.refl _ _⟩
  have hne : ((l.length : Int) != m.length) = false := by simp; omega
  have Hl := Lib.hid hl
  have hl1 : l.length ≤ m.length := by omega
  have hl2 : m.length ≤ l.length := by omega
  clear hl
  go_enter Tryz.func22, Tryz.ntmps22
  go_wp2
  go_loopw [5] (fun i wr => ∃ k : Nat, k ≤ l.length ∧ i = .int .i64 k ∧ Hid (l.take k = m.take k) ∧ Below w.heap.size w wr) (fun i _ => l.length - (intOf i).toNat)
  case atStart => exact ⟨0, Nat.zero_le _, rfl, by simp [Hid], Below.refl _ _⟩
  case round =>
    obtain ⟨k, hk, rfl, Ht, hBr⟩ := hrel
    by_cases hlt : k < l.length
    · obtain ⟨b1, off1, rfl, hb1, c1, c1'⟩ := (ha.below hBr).at_ hlt
      obtain ⟨b2, off2, rfl, hb2, c2, c2'⟩ := (hb.below hBr).at_ (k := k) (by omega)
      have hlt' : k < m.length := by omega
      by_cases hx : l[k] = m[k]
      · have HX := Lib.hid hx
        rw [hx] at c1 c1'
        clear hx
        generalize m[k] = q at c1 c1' c2 c2'
        go_wp2
        go_quiet (fail)
        go_wp2
        go_roundw
        case rel => exact ⟨k + 1, by omega, by go_num, beq_take_snoc l m k hlt hlt' Ht.out HX.out, (by repeat (first | exact Below.refl _ _ | assumption | refine Below.drew ?_ | refine Below.drewN' ?_ _ | (refine Below.alloc ?_ (by simp <;> omega) _) | (refine Below.setCell ?_ (by simp <;> omega) _)))⟩
        case measure => simp [intOf]; omega
      · have HX : Hid (decide (l = m) = false) := by simpa [Hid] using ne_of_get hx
        generalize l[k] = p at *
        generalize m[k] = q at *
        obtain ⟨a, b⟩ := p
        obtain ⟨a', b'⟩ := q
        simp only at c1 c1' c2 c2'
        by_cases h1 : a = a'
        · subst h1
          have h2 : ¬ b = b' := fun h => hx (by rw [h])
          clear hx
          go_wp2
          go_quiet (fail)
          go_wp2
          go_ret
          exact ⟨ret_bool HX.out.symm, (by repeat (first | exact Below.refl _ _ | assumption | refine Below.drew ?_ | refine Below.drewN' ?_ _ | (refine Below.alloc ?_ (by simp <;> omega) _) | (refine Below.setCell ?_ (by simp <;> omega) _)))⟩
        · clear hx
          go_wp2
          go_quiet (fail)
          go_wp2
          go_ret
          exact ⟨ret_bool HX.out.symm, (by repeat (first | exact Below.refl _ _ | assumption | refine Below.drew ?_ | refine Below.drewN' ?_ _ | (refine Below.alloc ?_ (by simp <;> omega) _) | (refine Below.setCell ?_ (by simp <;> omega) _)))⟩
    · have hk' : k = l.length := by omega
      have Hf : Hid (decide (l = m) = true) := by
        have := Ht.out
        rw [hk', List.take_length, Hl.out, List.take_length] at this
        simpa [Hid] using this
      clear hk'
      go_wp2
      go_ret
      exact ⟨ret_bool Hf.out.symm, hBr⟩
end Go.Proofs.YthcenmocnphnmaaGreatDoor
/-
  Contracts: grids, both checks of a sea, join, Terrain, and the neighbors of the reference.
-/
namespace Go.Proofs.YthcenmocnphnmaaGreatDoor
open Go.RowKit

theorem int_info : (Tryz.prog.info? 3).map (fun i => (i.zero, i.size, i.bytes)) = some (some (.int .i64 0), 1, 8) := by kernel_rfl
theorem span_info : (Tryz.prog.info? 34).map (fun i => (i.zero, i.size, i.bytes)) = some (some (.agg #[.int .i64 0, .int .i64 0]), 2, 16) := by kernel_rfl
theorem bool_info : (Tryz.prog.info? 4).map (fun i => (i.zero, i.size, i.bytes)) = some (some (.bool false), 1, 1) := by kernel_rfl

theorem grids_any (x y : Value) (g h : G) (w : World) (hg : GridAt w w.heap.size x g) (hh : GridAt w w.heap.size y h) :
    Calls Tryz.prog 30 #[x, y] w fun e w' => e = .returned (.bool (decide (g = h))) ∧ Below w.heap.size w w' := by
  obtain ⟨v, rfl, hs⟩ := hg
  obtain ⟨A, c, rfl, hc, hm⟩ := hs.open_
  obtain ⟨u, rfl, ht⟩ := hh
  obtain ⟨A', c', rfl, hc', hm'⟩ := ht.open_
  obtain ⟨W, H, S, ss⟩ := g
  obtain ⟨W', H', S', ss'⟩ := h
  simp only at hs hc hm ht hc' hm' ⊢
  by_cases h1 : W = W'
  case neg =>
    have He : Hid (decide ((⟨W, H, S, ss⟩ : G) = ⟨W', H', S', ss'⟩) = false) := by simp [Hid, h1]
    have hb : (W == W') = false := by simpa using h1
    go_enter Tryz.func30, Tryz.ntmps30
    go_wp2
    go_ret
    exact ⟨ret_bool He.out.symm, (by repeat (first | exact Below.refl _ _ | assumption | refine Below.drew ?_ | refine Below.drewN' ?_ _ | (refine Below.alloc ?_ (by simp <;> omega) _) | (refine Below.setCell ?_ (by simp <;> omega) _)))⟩
  subst h1
  by_cases h2 : H = H'
  case neg =>
    have He : Hid (decide ((⟨W, H, S, ss⟩ : G) = ⟨W, H', S', ss'⟩) = false) := by simp [Hid, h2]
    have hb : (H == H') = false := by simpa using h2
    go_enter Tryz.func30, Tryz.ntmps30
    go_wp2
    go_ret
    exact ⟨ret_bool He.out.symm, (by repeat (first | exact Below.refl _ _ | assumption | refine Below.drew ?_ | refine Below.drewN' ?_ _ | (refine Below.alloc ?_ (by simp <;> omega) _) | (refine Below.setCell ?_ (by simp <;> omega) _)))⟩
  subst h2
  by_cases h3 : S = S'
  case neg =>
    have He : Hid (decide ((⟨W, H, S, ss⟩ : G) = ⟨W, H, S', ss'⟩) = false) := by simp [Hid, h3]
    have hb : (S == S') = false := by simpa using h3
    go_enter Tryz.func30, Tryz.ntmps30
    go_wp2
    go_ret
    exact ⟨ret_bool He.out.symm, (by repeat (first | exact Below.refl _ _ | assumption | refine Below.drew ?_ | refine Below.drewN' ?_ _ | (refine Below.alloc ?_ (by simp <;> omega) _) | (refine Below.setCell ?_ (by simp <;> omega) _)))⟩
  subst h3
  have He : Hid (decide ((⟨W, H, S, ss⟩ : G) = ⟨W, H, S, ss'⟩) = decide (ss = ss')) := by simp [Hid]
  have HS := Lib.hid hs
  have HT := Lib.hid ht
  clear hs ht
  go_enter Tryz.func30, Tryz.ntmps30
  go_wp2_with (go_at_call 22; refine (spans_any _ _ ss ss' _ (by exact HS.out.later (by repeat (first | exact Below.refl _ _ | assumption | refine Below.drew ?_ | refine Below.drewN' ?_ _ | (refine Below.alloc ?_ (by simp <;> omega) _) | (refine Below.setCell ?_ (by simp <;> omega) _))) (Nat.le_refl _)) (by exact HT.out.later (by repeat (first | exact Below.refl _ _ | assumption | refine Below.drew ?_ | refine Below.drewN' ?_ _ | (refine Below.alloc ?_ (by simp <;> omega) _) | (refine Below.setCell ?_ (by simp <;> omega) _))) (Nat.le_refl _))).mono ?_; rintro e w1 ⟨rfl, hb1⟩)
  go_ret
  have hB : Below w.heap.size w ((w.alloc (.cells #[.int .i64 W, .int .i64 H, .int .i64 S, .slice A ss.length c] 24)).alloc (.cells #[.int .i64 W, .int .i64 H, .int .i64 S, .slice A' ss'.length c'] 24)) := (by repeat (first | exact Below.refl _ _ | assumption | refine Below.drew ?_ | refine Below.drewN' ?_ _ | (refine Below.alloc ?_ (by simp <;> omega) _) | (refine Below.setCell ?_ (by simp <;> omega) _)))
  exact ⟨ret_bool He.out.symm, hB.trans (hb1.mono hB.size)⟩

/-! The sea. -/
def inG (g : G) (c : Int) : Bool := decide (0 ≤ c ∧ c < g.ss.length)
def seaE (g : G) (l : List Int) : Int := if checkE g = 0 then (if l.length = 0 then 18 else if l.all (inG g) then 0 else 4) else checkE g

set_option maxHeartbeats 1000000 in
theorem checkSea_any (x y : Value) (g : G) (l : List Int) (w : World) (hg : GridAt w w.heap.size x g) (hl : IntsAt w w.heap.size y l) :
    Calls Tryz.prog 57 #[x, y] w fun e w' => e = .returned (.int .i64 (seaE g l)) ∧ Below w.heap.size w w' := by
  have HG := Lib.hid hg
  obtain ⟨v, rfl, hs⟩ := hg
  obtain ⟨A, c, rfl, hc, hm⟩ := hl.open_
  by_cases h0 : checkE g = 0
  case neg =>
    have He : Hid (seaE g l = checkE g) := by simp only [Hid, seaE]; rw [if_neg h0]
    have hb : (checkE g != 0) = true := by simpa using h0
    clear h0
    go_enter Tryz.func57, Tryz.ntmps57
    go_wp2_with (go_at_call 16; refine (check_any _ g _ (by exact HG.out.later (by repeat (first | exact Below.refl _ _ | assumption | refine Below.drew ?_ | refine Below.drewN' ?_ _ | (refine Below.alloc ?_ (by simp <;> omega) _) | (refine Below.setCell ?_ (by simp <;> omega) _))) (Nat.le_refl _))).mono ?_; rintro e w1 ⟨rfl, hb1⟩)
    go_ret
    have hB : Below w.heap.size w (w.alloc (.cells #[.int .i64 g.W, .int .i64 g.H, .int .i64 g.S, v] 24)) := (by repeat (first | exact Below.refl _ _ | assumption | refine Below.drew ?_ | refine Below.drewN' ?_ _ | (refine Below.alloc ?_ (by simp <;> omega) _) | (refine Below.setCell ?_ (by simp <;> omega) _)))
    exact ⟨ret_int He.out.symm, hB.trans (hb1.mono hB.size)⟩
  have hb : (checkE g != 0) = false := by simpa using h0
  have hB : Below w.heap.size w (w.alloc (.cells #[.int .i64 g.W, .int .i64 g.H, .int .i64 g.S, v] 24)) := (by repeat (first | exact Below.refl _ _ | assumption | refine Below.drew ?_ | refine Below.drewN' ?_ _ | (refine Below.alloc ?_ (by simp <;> omega) _) | (refine Below.setCell ?_ (by simp <;> omega) _)))
  by_cases h1 : l.length = 0
  case pos =>
    have He : Hid (seaE g l = 18) := by simp only [Hid, seaE]; rw [if_pos h0, if_pos h1]
    have h1' : (((l.length : Nat) : Int) == 0) = true := by simpa using h1
    clear h0 h1
    go_enter Tryz.func57, Tryz.ntmps57
    go_wp2_with (go_at_call 16; refine (check_any _ g _ (by exact HG.out.later (by repeat (first | exact Below.refl _ _ | assumption | refine Below.drew ?_ | refine Below.drewN' ?_ _ | (refine Below.alloc ?_ (by simp <;> omega) _) | (refine Below.setCell ?_ (by simp <;> omega) _))) (Nat.le_refl _))).mono ?_; rintro e w1 ⟨rfl, hb1⟩)
    go_ret
    exact ⟨ret_int He.out.symm, hB.trans (hb1.mono hB.size)⟩
  have He : Hid (seaE g l = if l.all (inG g) then 0 else 4) := by simp only [Hid, seaE]; rw [if_pos h0, if_neg h1]
  have h1' : (((l.length : Nat) : Int) == 0) = false := by simpa using h1
  clear h0 h1
  have HB := Lib.hid hB
  clear hB
  go_enter Tryz.func57, Tryz.ntmps57
  go_wp2_with (go_at_call 16; refine (check_any _ g _ (by exact HG.out.later (by repeat (first | exact Below.refl _ _ | assumption | refine Below.drew ?_ | refine Below.drewN' ?_ _ | (refine Below.alloc ?_ (by simp <;> omega) _) | (refine Below.setCell ?_ (by simp <;> omega) _))) (Nat.le_refl _))).mono ?_; rintro e w1 ⟨rfl, hb1⟩)
  go_loopw [18] (fun i wr => ∃ k : Nat, k ≤ l.length ∧ i = .int .i64 k ∧ Hid ((l.take k).all (inG g) = true) ∧ Below (w.heap.size + 1) (w.alloc (.cells #[.int .i64 g.W, .int .i64 g.H, .int .i64 g.S, v] 24)) wr) (fun i _ => l.length - (intOf i).toNat)
  case atStart => exact ⟨0, Nat.zero_le _, rfl, by simp [Hid], by simpa using hb1⟩
  case round =>
    obtain ⟨k, hk, rfl, Hall, hB0⟩ := hrel
    have hsz := hB0.size
    simp only [World.size_alloc] at hsz
    have hBr : Below w.heap.size w wr := HB.out.trans (hB0.mono (by omega))
    by_cases hlt : k < l.length
    · obtain ⟨b, off, rfl, hb', c1⟩ := (hl.below hBr).at_ hlt
      obtain ⟨hcr, hfr⟩ := bcell hB0
      clear hfr
      by_cases hok : inG g l[k] = true
      · have Hok := Lib.hid hok
        have hok' : decide (0 ≤ l[k] ∧ l[k] < g.ss.length) = true := hok
        clear hok
        go_wp2_with (go_at_call 50; refine (hasCell_any _ g _ _ (by exact HG.out.later hBr (Nat.le_refl _))).mono ?_; rw [hok']; clear hok'; rintro e w2 ⟨rfl, hb2⟩)
        go_roundw
        case rel => exact ⟨k + 1, by omega, by go_num, all_snoc _ _ _ hlt Hall.out Hok.out, hB0.trans (hb2.mono hsz)⟩
        case measure => simp [intOf]; omega
      · have Hok := hid_not hok
        have hok' : decide (0 ≤ l[k] ∧ l[k] < g.ss.length) = false := Hok.out
        clear hok
        have Hf := Lib.hid (all_false (inG g) l k hlt Hok.out)
        go_wp2_with (go_at_call 50; refine (hasCell_any _ g _ _ (by exact HG.out.later hBr (Nat.le_refl _))).mono ?_; rw [hok']; clear hok'; rintro e w2 ⟨rfl, hb2⟩)
        go_ret
        exact ⟨ret_int (by rw [He.out, Hf.out]; rfl), hBr.trans (hb2.mono hBr.size)⟩
    · have hk' : k = l.length := by omega
      have Hf : Hid (l.all (inG g) = true) := by
        have := Hall.out
        rw [hk', List.take_length] at this
        exact this
      clear hk'
      go_wp2
      go_ret
      exact ⟨ret_int (by rw [He.out, Hf.out]; rfl), hBr⟩
end Go.Proofs.YthcenmocnphnmaaGreatDoor
/-
  Contracts: the reference's check of a sea, join, Terrain.
-/
namespace Go.Proofs.YthcenmocnphnmaaGreatDoor
open Go.RowKit

set_option maxHeartbeats 1000000 in
theorem rsea_any (x y : Value) (g : G) (l : List Int) (w : World) (hg : GridAt w w.heap.size x g) (hl : IntsAt w w.heap.size y l) :
    Calls Tryz.prog 59 #[x, y] w fun e w' => e = .returned (.int .i64 (seaE g l)) ∧ Below w.heap.size w w' := by
  have HG := Lib.hid hg
  obtain ⟨v, rfl, hs⟩ := hg
  obtain ⟨A', c', rfl, hc', hm'⟩ := hs.open_
  obtain ⟨A, c, rfl, hc, hm⟩ := hl.open_
  clear hs
  by_cases h0 : checkE g = 0
  case neg =>
    have He : Hid (seaE g l = checkE g) := by simp only [Hid, seaE]; rw [if_neg h0]
    have hb : (checkE g != 0) = true := by simpa using h0
    clear h0
    go_enter Tryz.func59, Tryz.ntmps59
    go_wp2_with (go_at_call 17; refine (rCheck_any _ g _ (by exact HG.out.later (by repeat (first | exact Below.refl _ _ | assumption | refine Below.drew ?_ | refine Below.drewN' ?_ _ | (refine Below.alloc ?_ (by simp <;> omega) _) | (refine Below.setCell ?_ (by simp <;> omega) _))) (Nat.le_refl _))).mono ?_; rintro e w1 ⟨rfl, hb1⟩)
    go_ret
    have hB : Below w.heap.size w (w.alloc (.cells #[.int .i64 g.W, .int .i64 g.H, .int .i64 g.S, .slice A' g.ss.length c'] 24)) := (by repeat (first | exact Below.refl _ _ | assumption | refine Below.drew ?_ | refine Below.drewN' ?_ _ | (refine Below.alloc ?_ (by simp <;> omega) _) | (refine Below.setCell ?_ (by simp <;> omega) _)))
    exact ⟨ret_int He.out.symm, hB.trans (hb1.mono hB.size)⟩
  have hb : (checkE g != 0) = false := by simpa using h0
  have hB : Below w.heap.size w (w.alloc (.cells #[.int .i64 g.W, .int .i64 g.H, .int .i64 g.S, .slice A' g.ss.length c'] 24)) := (by repeat (first | exact Below.refl _ _ | assumption | refine Below.drew ?_ | refine Below.drewN' ?_ _ | (refine Below.alloc ?_ (by simp <;> omega) _) | (refine Below.setCell ?_ (by simp <;> omega) _)))
  by_cases h1 : l.length = 0
  case pos =>
    have He : Hid (seaE g l = 18) := by simp only [Hid, seaE]; rw [if_pos h0, if_pos h1]
    have h1' : (((l.length : Nat) : Int) == 0) = true := by simpa using h1
    clear h0 h1
    go_enter Tryz.func59, Tryz.ntmps59
    go_wp2_with (go_at_call 17; refine (rCheck_any _ g _ (by exact HG.out.later (by repeat (first | exact Below.refl _ _ | assumption | refine Below.drew ?_ | refine Below.drewN' ?_ _ | (refine Below.alloc ?_ (by simp <;> omega) _) | (refine Below.setCell ?_ (by simp <;> omega) _))) (Nat.le_refl _))).mono ?_; rintro e w1 ⟨rfl, hb1⟩)
    go_ret
    exact ⟨ret_int He.out.symm, hB.trans (hb1.mono hB.size)⟩
  have He : Hid (seaE g l = if l.all (inG g) then 0 else 4) := by simp only [Hid, seaE]; rw [if_pos h0, if_neg h1]
  have h1' : (((l.length : Nat) : Int) == 0) = false := by simpa using h1
  clear h0 h1
  have HB := Lib.hid hB
  clear hB
  go_enter Tryz.func59, Tryz.ntmps59
  go_wp2_with (go_at_call 17; refine (rCheck_any _ g _ (by exact HG.out.later (by repeat (first | exact Below.refl _ _ | assumption | refine Below.drew ?_ | refine Below.drewN' ?_ _ | (refine Below.alloc ?_ (by simp <;> omega) _) | (refine Below.setCell ?_ (by simp <;> omega) _))) (Nat.le_refl _))).mono ?_; rintro e w1 ⟨rfl, hb1⟩)
  go_loopw [6] (fun i wr => ∃ k : Nat, k ≤ l.length ∧ i = .int .i64 k ∧ Hid ((l.take k).all (inG g) = true) ∧ Below (w.heap.size + 1) (w.alloc (.cells #[.int .i64 g.W, .int .i64 g.H, .int .i64 g.S, .slice A' g.ss.length c'] 24)) wr) (fun i _ => l.length - (intOf i).toNat)
  case atStart => exact ⟨0, Nat.zero_le _, rfl, by simp [Hid], by simpa using hb1⟩
  case round =>
    obtain ⟨k, hk, rfl, Hall, hB0⟩ := hrel
    have hsz := hB0.size
    simp only [World.size_alloc] at hsz
    have hBr : Below w.heap.size w wr := HB.out.trans (hB0.mono (by omega))
    by_cases hlt : k < l.length
    · obtain ⟨b, off, rfl, hb', c1⟩ := (hl.below hBr).at_ hlt
      obtain ⟨hcr, hfr⟩ := bcell hB0
      clear hfr
      have hwr : IntKind.i64.wrap ((g.ss.length : Int) - 1) = (g.ss.length : Int) - 1 := IntWalk.i64_in _ (by omega)
      by_cases hok : inG g l[k] = true
      · have Hok := Lib.hid hok
        have h1 : 0 ≤ l[k] := (of_decide_eq_true hok).1
        have h2 : l[k] ≤ (g.ss.length : Int) - 1 := by have := (of_decide_eq_true hok).2; omega
        clear hok
        go_wp2
        go_quiet ((go_at_call 53; exact quiet_left (rWithin_yes _ _ _ _ h1 h2)))
        clear hwr
        go_wp2
        go_roundw
        case rel => exact ⟨k + 1, by omega, by go_num, all_snoc _ _ _ hlt Hall.out Hok.out, Below.drewN' hB0 _⟩
        case measure => simp [intOf]; omega
      · have Hok := hid_not hok
        have h1 : l[k] < 0 ∨ (g.ss.length : Int) - 1 < l[k] := by
          have h := Hok.out
          unfold inG at h
          have := of_decide_eq_false h
          omega
        clear hok
        have Hf := Lib.hid (all_false (inG g) l k hlt Hok.out)
        go_wp2
        go_quiet ((go_at_call 53; exact quiet_left (rWithin_no _ _ _ _ h1)))
        clear hwr
        go_wp2
        go_ret
        exact ⟨ret_int (by rw [He.out, Hf.out]; rfl), Below.drewN' hBr _⟩
    · have hk' : k = l.length := by omega
      have Hf : Hid (l.all (inG g) = true) := by
        have := Hall.out
        rw [hk', List.take_length] at this
        exact this
      clear hk'
      go_wp2
      go_ret
      exact ⟨ret_int (by rw [He.out, Hf.out]; rfl), hBr⟩

/-! join -/
set_option maxHeartbeats 1000000 in
theorem join_any (x y : Value) (l m : List Int) (w : World) (hl : IntsAt w w.heap.size x l) (hm : IntsAt w w.heap.size y m) (he : l.length = m.length) (hb : l.length ≤ 65536) :
    Calls Tryz.prog 86 #[x, y] w fun e w' => ∃ v, e = .returned v ∧ SpansAt w' w'.heap.size v (l.zip m) ∧ Below w.heap.size w w' := by
  obtain ⟨A, c, rfl, hc, hm1⟩ := hl.open_
  obtain ⟨A', c', rfl, hc', hm2⟩ := hm.open_
  obtain ⟨i0, hi0, hz0, hz1, hz2⟩ := info_parts span_info
  have h1 : l.length ≤ m.length := by omega
  have He := Lib.hid he
  clear he
  have hmk := fun W => run_make_rowN (P := Tryz.prog) 22 34 i0 _ Tryz.underlying22 hi0 hz0 .i64 .i64 l.length l.length (Nat.le_refl _) (by rw [hz2]; omega) (by omega) W
  rw [hz1] at hmk
  simp only [Value.cells] at hmk
  have hown0 := own_made w 34 #[.int .i64 0, .int .i64 0] l.length 2 w.heap.size (Nat.le_refl _) hb
  rw [spanCells_zero] at hown0
  have Hown0 := Lib.hid hown0
  clear hown0 hi0 hz0 hz1 hz2
  go_enter Tryz.func86, Tryz.ntmps86
  go_wp2
  clear hmk
  go_loopw [12] (fun i wr => ∃ (k : Nat) (ss : List (Int × Int)), k ≤ l.length ∧ i = .int .i64 k ∧ Hid (ss.length = l.length) ∧ Hid (ss.take k = (l.zip m).take k) ∧ Hid (wr.ownsRow w.heap.size 34 2 (.slice (some ⟨w.heap.size, 0, none⟩) l.length l.length) l.length (spanCells ss)) ∧ Below w.heap.size w wr) (fun i _ => l.length - (intOf i).toNat)
  case atStart => exact ⟨0, _, Nat.zero_le _, rfl, by simp [Hid], by simp [Hid], Hown0.out, (by repeat (first | exact Below.refl _ _ | assumption | refine Below.drew ?_ | refine Below.drewN' ?_ _ | (refine Below.alloc ?_ (by simp <;> omega) _) | (refine Below.setCell ?_ (by simp <;> omega) _)))⟩
  case round =>
    obtain ⟨k, ss, hk, rfl, Hss, Ht, Hown, hBr⟩ := hrel
    clear Hown0
    by_cases hlt : k < l.length
    · obtain ⟨b1, off1, rfl, hb1, c1⟩ := (hl.below hBr).at_ hlt
      obtain ⟨b2, off2, rfl, hb2, c2⟩ := (hm.below hBr).at_ (k := k) (by omega)
      have hlt' : k < m.length := by omega
      have hss : k < ss.length := by rw [Hss.out]; exact hlt
      obtain ⟨c3, c4⟩ := own_spans_at Hown.out hss
      have f3 := Hown.out.frozenAt (k * 2)
      have f4 := Hown.out.frozenAt (k * 2 + 1)
      go_wp2
      go_region
      go_wp2
      go_roundw
      case rel =>
        refine ⟨k + 1, ss.set k (l[k], m[k]), by omega, by go_num, by simpa [Hid] using Hss.out, ?_, ?_, ?_⟩
        · have hz : k < (l.zip m).length := by simp; omega
          rw [Hid, take_snoc _ k hz, take_snoc (ss.set k (l[k], m[k])) k (by simpa using hss), List.take_set_of_le (Nat.le_refl _), Ht.out]
          simp
        · exact own_spans_set Hown.out hss l[k] m[k]
        · exact (by repeat (first | exact Below.refl _ _ | assumption | refine Below.drew ?_ | refine Below.drewN' ?_ _ | (refine Below.alloc ?_ (by simp <;> omega) _) | (refine Below.setCell ?_ (by simp <;> omega) _)))
      case measure => simp [intOf]; omega
    · have hk' : k = l.length := by omega
      have Hf : Hid (ss = l.zip m) := by
        have h1 := Ht.out
        rw [hk', List.take_of_length_le (by rw [Hss.out]; omega), List.take_of_length_le (by simp; omega)] at h1
        exact h1
      clear hk'
      go_wp2
      go_ret
      have h2 := Reads.of_own Hown.out
      rw [Hf.out] at h2
      refine ⟨_, rfl, ?_, hBr⟩
      have h3 : (l.zip m).length = l.length := by simp; omega
      unfold SpansAt
      rw [h3]
      exact h2
end Go.Proofs.YthcenmocnphnmaaGreatDoor
/-
  join once more: its row is new; slices whose rows are new.
-/
namespace Go.Proofs.YthcenmocnphnmaaGreatDoor
open Go.RowKit

/-- the slice, if it has a row, has one from a block on -/
def Fresh (base : Nat) (v : Value) : Prop := ∀ a n c, v = .slice (some a) n c → base ≤ a.block
theorem Fresh.mono {b b' : Nat} {v : Value} (h : Fresh b v) (hb : b' ≤ b) : Fresh b' v := fun a n c e => Nat.le_trans hb (h a n c e)
theorem Reads.fresh {w w' : World} {B size n base : Nat} {v : Value} {xs : List Value} (h : Reads w B size v n xs) (hf : Fresh base v) (hk : ∀ p : Addr, base ≤ p.block → p.block < B → w'.cell? p = w.cell? p) : Reads w' B size v n xs := by
  obtain ⟨h1, h2, A, c, rfl, h4, h5⟩ := h
  refine ⟨h1, h2, A, c, rfl, h4, fun hn => ?_⟩
  obtain ⟨b, off, rfl, hb, hc⟩ := h5 hn
  have := hf _ _ _ rfl
  exact ⟨b, off, rfl, hb, fun j u hu => (hk ⟨b, off + j, none⟩ this hb).trans (hc j u hu)⟩
theorem SpansAt.fresh {w w' : World} {B base : Nat} {v : Value} {ss : List (Int × Int)} (h : SpansAt w B v ss) (hf : Fresh base v) (hk : ∀ p : Addr, base ≤ p.block → p.block < B → w'.cell? p = w.cell? p) : SpansAt w' B v ss := Reads.fresh h hf hk
set_option maxHeartbeats 1000000 in
theorem join_new (x y : Value) (l m : List Int) (w : World) (hl : IntsAt w w.heap.size x l) (hm : IntsAt w w.heap.size y m) (he : l.length = m.length) (hb : l.length ≤ 65536) :
    Calls Tryz.prog 86 #[x, y] w fun e w' => ∃ v, e = .returned v ∧ SpansAt w' w'.heap.size v (l.zip m) ∧ Below w.heap.size w w' ∧ Fresh w.heap.size v := by
  obtain ⟨A, c, rfl, hc, hm1⟩ := hl.open_
  obtain ⟨A', c', rfl, hc', hm2⟩ := hm.open_
  obtain ⟨i0, hi0, hz0, hz1, hz2⟩ := info_parts span_info
  have h1 : l.length ≤ m.length := by omega
  have He := Lib.hid he
  clear he
  have hmk := fun W => run_make_rowN (P := Tryz.prog) 22 34 i0 _ Tryz.underlying22 hi0 hz0 .i64 .i64 l.length l.length (Nat.le_refl _) (by rw [hz2]; omega) (by omega) W
  rw [hz1] at hmk
  simp only [Value.cells] at hmk
  have hown0 := own_made w 34 #[.int .i64 0, .int .i64 0] l.length 2 w.heap.size (Nat.le_refl _) hb
  rw [spanCells_zero] at hown0
  have Hown0 := Lib.hid hown0
  clear hown0 hi0 hz0 hz1 hz2
  go_enter Tryz.func86, Tryz.ntmps86
  go_wp2
  clear hmk
  go_loopw [12] (fun i wr => ∃ (k : Nat) (ss : List (Int × Int)), k ≤ l.length ∧ i = .int .i64 k ∧ Hid (ss.length = l.length) ∧ Hid (ss.take k = (l.zip m).take k) ∧ Hid (wr.ownsRow w.heap.size 34 2 (.slice (some ⟨w.heap.size, 0, none⟩) l.length l.length) l.length (spanCells ss)) ∧ Below w.heap.size w wr) (fun i _ => l.length - (intOf i).toNat)
  case atStart => exact ⟨0, _, Nat.zero_le _, rfl, by simp [Hid], by simp [Hid], Hown0.out, (by repeat (first | exact Below.refl _ _ | assumption | refine Below.drew ?_ | refine Below.drewN' ?_ _ | (refine Below.alloc ?_ (by simp <;> omega) _) | (refine Below.setCell ?_ (by simp <;> omega) _)))⟩
  case round =>
    obtain ⟨k, ss, hk, rfl, Hss, Ht, Hown, hBr⟩ := hrel
    clear Hown0
    by_cases hlt : k < l.length
    · obtain ⟨b1, off1, rfl, hb1, c1⟩ := (hl.below hBr).at_ hlt
      obtain ⟨b2, off2, rfl, hb2, c2⟩ := (hm.below hBr).at_ (k := k) (by omega)
      have hlt' : k < m.length := by omega
      have hss : k < ss.length := by rw [Hss.out]; exact hlt
      obtain ⟨c3, c4⟩ := own_spans_at Hown.out hss
      have f3 := Hown.out.frozenAt (k * 2)
      have f4 := Hown.out.frozenAt (k * 2 + 1)
      go_wp2
      go_region
      go_wp2
      go_roundw
      case rel =>
        refine ⟨k + 1, ss.set k (l[k], m[k]), by omega, by go_num, by simpa [Hid] using Hss.out, ?_, ?_, ?_⟩
        · have hz : k < (l.zip m).length := by simp; omega
          rw [Hid, take_snoc _ k hz, take_snoc (ss.set k (l[k], m[k])) k (by simpa using hss), List.take_set_of_le (Nat.le_refl _), Ht.out]
          simp
        · exact own_spans_set Hown.out hss l[k] m[k]
        · exact (by repeat (first | exact Below.refl _ _ | assumption | refine Below.drew ?_ | refine Below.drewN' ?_ _ | (refine Below.alloc ?_ (by simp <;> omega) _) | (refine Below.setCell ?_ (by simp <;> omega) _)))
      case measure => simp [intOf]; omega
    · have hk' : k = l.length := by omega
      have Hf : Hid (ss = l.zip m) := by
        have h1 := Ht.out
        rw [hk', List.take_of_length_le (by rw [Hss.out]; omega), List.take_of_length_le (by simp; omega)] at h1
        exact h1
      clear hk'
      go_wp2
      go_ret
      have h2 := Reads.of_own Hown.out
      rw [Hf.out] at h2
      refine ⟨_, rfl, ?_, hBr, fun a n c e => by injection e with e1; injection e1 with e2; subst e2; exact Nat.le_refl _⟩
      have h3 : (l.zip m).length = l.length := by simp; omega
      unfold SpansAt
      rw [h3]
      exact h2
end Go.Proofs.YthcenmocnphnmaaGreatDoor
