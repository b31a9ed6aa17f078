/-
  Words and small laws for all texts of this family: slices that read as lists, grids, spans. No program is named here.
-/
import Derived.Below
import Derived.Laws.OwnMore
import Derived.Deep.AppendLies
import Derived.Deep.Draws
import Derived.WalkKit
import Derived.WalkSpells
import Derived.WalkLawsBesides
import Derived.Lib.Hide
import Derived.Deep.QuietTactic
import Derived.BigQuiet
import Derived.Laws.StructEq
set_option linter.unusedSimpArgs false
set_option linter.unusedVariables false
namespace Go.Proofs.YtdhcdgfpkjdihaaDoor
open Go.RowKit
/-- The slice value v has n elements of 'size' cells each, which read as xs, all below block B. -/
def Reads (w : World) (B size : Nat) (v : Value) (n : Nat) (xs : List Value) : Prop :=
 xs.length = n * size ∧ n ≤ 9223372036854775807 ∧ ∃ A c, v = .slice A n c ∧ n ≤ c ∧ (0 < n → ∃ b off, A = some ⟨b, off, none⟩ ∧ b < B ∧ ∀ j u, xs[j]? = some u → w.cell? ⟨b, off + j, none⟩ = some u)
section
variable {w w' : World} {B B' size n : Nat} {v : Value} {xs : List Value}
theorem Reads.keep (h : Reads w B size v n xs) (hk : ∀ p : Addr, p.block < B → w'.cell? p = w.cell? p) : Reads w' B size v n xs := by
 obtain ⟨h1, h2, A, c, h3, h4, h5⟩ := h
 refine ⟨h1, h2, A, c, h3, h4, fun hn => ?_⟩
 obtain ⟨b, off, e, hb, hc⟩ := h5 hn
 exact ⟨b, off, e, hb, fun j u hu => (hk _ hb).trans (hc j u hu)⟩
theorem Reads.more (h : Reads w B size v n xs) (hB : B ≤ B') : Reads w B' size v n xs := by
 obtain ⟨h1, h2, A, c, h3, h4, h5⟩ := h
 refine ⟨h1, h2, A, c, h3, h4, fun hn => ?_⟩
 obtain ⟨b, off, e, hb, hc⟩ := h5 hn
 exact ⟨b, off, e, by omega, hc⟩
theorem Reads.below (h : Reads w B size v n xs) (hb : Below B w w') : Reads w' B size v n xs := h.keep fun _ hp => hb.cell hp
/-- carried to a later world, and to its own size -/
theorem Reads.later (h : Reads w B size v n xs) (hb : Below B w w') (hB : B ≤ w.heap.size) : Reads w' w'.heap.size size v n xs := (h.below hb).more (Nat.le_trans hB hb.size)
theorem Reads.nil (w : World) (B size : Nat) : Reads w B size (.slice none 0 0) 0 [] := ⟨by simp, by omega, none, 0, rfl, by omega, fun h => absurd h (by omega)⟩
theorem Reads.of_own {base e : Nat} (h : w.ownsRow base e size v n xs) : Reads w w.heap.size size v n xs := by
 rcases h.2 with ⟨rfl, rfl⟩ | ⟨g, cap, cur, rfl, h2, h3, h4, h5, h6, h7⟩
 · exact ⟨h.1, by omega, none, 0, rfl, by omega, fun h => absurd h (by omega)⟩
 · unfold maxLen at h5
   refine ⟨h.1, by omega, _, cap, rfl, h4, fun hn => ⟨g, 0, rfl, ?_, fun j u hu => ?_⟩⟩
   · rcases Nat.lt_or_ge g w.heap.size with h | h
     · exact h
     · rw [Array.getElem?_eq_none h] at h3; cases h3
   · have := h.cells (g := g) rfl j u hu
     have e1 : (⟨g, 0, none⟩ : Addr).add j = ⟨g, 0 + j, none⟩ := by unfold Addr.add; split <;> simp_all
     rwa [e1] at this
theorem Reads.slice {A : Option Addr} {m c : Nat} (h : Reads w B size (.slice A m c) n xs) : m = n ∧ n ≤ c := by
 obtain ⟨_, _, A', c', h3, h4, _⟩ := h
 injection h3 with a b d
 subst b d
 exact ⟨rfl, h4⟩
theorem Reads.at1 {A : Option Addr} {c k : Nat} {xs : List Value} (h : Reads w B 1 (.slice A n c) n xs) (hk : k < n) :
 ∃ b off, A = some ⟨b, off, none⟩ ∧ b < B ∧ ∃ u, xs[k]? = some u ∧ w.cell? ⟨b, off + k, none⟩ = some u := by
 obtain ⟨h1, _, A', c', h3, h4, h5⟩ := h
 injection h3 with a b d
 subst a
 obtain ⟨b, off, e, hb, hc⟩ := h5 (by omega)
 have hl : k < xs.length := by omega
 exact ⟨b, off, e, hb, xs[k], List.getElem?_eq_getElem hl, hc k _ (List.getElem?_eq_getElem hl)⟩
end
/-! Lists of integers, of booleans, of spans. -/
def IntsAt (w : World) (B : Nat) (v : Value) (zs : List Int) : Prop := Reads w B 1 v zs.length (zs.map (Value.int .i64))
def BoolsAt (w : World) (B : Nat) (v : Value) (zs : List Bool) : Prop := Reads w B 1 v zs.length (zs.map Value.bool)
def spanCells (l : List (Int × Int)) : List Value := l.flatMap fun s => [.int .i64 s.1, .int .i64 s.2]
def SpansAt (w : World) (B : Nat) (v : Value) (ss : List (Int × Int)) : Prop := Reads w B 2 v ss.length (spanCells ss)
theorem spanCells_length (l : List (Int × Int)) : (spanCells l).length = l.length * 2 := by
 induction l with
 | nil => rfl
 | cons s l ih => simp [spanCells] at ih ⊢; omega
theorem spanCells_append (l m : List (Int × Int)) : spanCells (l ++ m) = spanCells l ++ spanCells m := by simp [spanCells]
theorem spanCells_get (l : List (Int × Int)) (k : Nat) (h : k < l.length) : (spanCells l)[k * 2]? = some (.int .i64 l[k].1) ∧ (spanCells l)[k * 2 + 1]? = some (.int .i64 l[k].2) := by
 induction l generalizing k with
 | nil => simp at h
 | cons s l ih =>
  cases k with
  | zero => simp [spanCells]
  | succ k =>
   have := ih k (by simpa using h)
   have e1 : (k + 1) * 2 = k * 2 + 2 := by omega
   simp only [spanCells, List.flatMap_cons, List.cons_append, List.nil_append, List.getElem_cons_succ] at this ⊢
   rw [e1]
   exact ⟨by simpa using this.1, by simpa using this.2⟩
section
variable {w w' : World} {B B' : Nat} {v : Value} {zs : List Int} {bs : List Bool} {ss : List (Int × Int)}
theorem IntsAt.below (h : IntsAt w B v zs) (hb : Below B w w') : IntsAt w' B v zs := Reads.below h hb
theorem IntsAt.more (h : IntsAt w B v zs) (hB : B ≤ B') : IntsAt w B' v zs := Reads.more h hB
theorem IntsAt.later (h : IntsAt w B v zs) (hb : Below B w w') (hB : B ≤ w.heap.size) : IntsAt w' w'.heap.size v zs := Reads.later h hb hB
theorem BoolsAt.below (h : BoolsAt w B v bs) (hb : Below B w w') : BoolsAt w' B v bs := Reads.below h hb
theorem BoolsAt.more (h : BoolsAt w B v bs) (hB : B ≤ B') : BoolsAt w B' v bs := Reads.more h hB
theorem BoolsAt.later (h : BoolsAt w B v bs) (hb : Below B w w') (hB : B ≤ w.heap.size) : BoolsAt w' w'.heap.size v bs := Reads.later h hb hB
theorem SpansAt.below (h : SpansAt w B v ss) (hb : Below B w w') : SpansAt w' B v ss := Reads.below h hb
theorem SpansAt.more (h : SpansAt w B v ss) (hB : B ≤ B') : SpansAt w B' v ss := Reads.more h hB
theorem SpansAt.later (h : SpansAt w B v ss) (hb : Below B w w') (hB : B ≤ w.heap.size) : SpansAt w' w'.heap.size v ss := Reads.later h hb hB
theorem IntsAt.open_ (h : IntsAt w B v zs) : ∃ A c, v = .slice A zs.length c ∧ zs.length ≤ c ∧ zs.length ≤ 9223372036854775807 := by
 obtain ⟨_, h2, A, c, h3, h4, _⟩ := h
 exact ⟨A, c, h3, h4, h2⟩
theorem BoolsAt.open_ (h : BoolsAt w B v bs) : ∃ A c, v = .slice A bs.length c ∧ bs.length ≤ c ∧ bs.length ≤ 9223372036854775807 := by
 obtain ⟨_, h2, A, c, h3, h4, _⟩ := h
 exact ⟨A, c, h3, h4, h2⟩
theorem SpansAt.open_ (h : SpansAt w B v ss) : ∃ A c, v = .slice A ss.length c ∧ ss.length ≤ c ∧ ss.length ≤ 9223372036854775807 := by
 obtain ⟨_, h2, A, c, h3, h4, _⟩ := h
 exact ⟨A, c, h3, h4, h2⟩
theorem IntsAt.at_ {A : Option Addr} {n c : Nat} (h : IntsAt w B (.slice A n c) zs) {k : Nat} (hk : k < zs.length) :
 ∃ b off, A = some ⟨b, off, none⟩ ∧ b < B ∧ w.cell? ⟨b, off + k, none⟩ = some (.int .i64 zs[k]) := by
 obtain ⟨rfl, _⟩ := Reads.slice h
 obtain ⟨b, off, e, hb, u, hu, hc⟩ := Reads.at1 h hk
 refine ⟨b, off, e, hb, ?_⟩
 rw [hc]
 simpa [hk] using hu.symm
theorem BoolsAt.at_ {A : Option Addr} {n c : Nat} (h : BoolsAt w B (.slice A n c) bs) {k : Nat} (hk : k < bs.length) :
 ∃ b off, A = some ⟨b, off, none⟩ ∧ b < B ∧ w.cell? ⟨b, off + k, none⟩ = some (.bool bs[k]) := by
 obtain ⟨rfl, _⟩ := Reads.slice h
 obtain ⟨b, off, e, hb, u, hu, hc⟩ := Reads.at1 h hk
 refine ⟨b, off, e, hb, ?_⟩
 rw [hc]
 simpa [hk] using hu.symm
theorem SpansAt.at_ {A : Option Addr} {n c : Nat} (h : SpansAt w B (.slice A n c) ss) {k : Nat} (hk : k < ss.length) :
 ∃ b off, A = some ⟨b, off, none⟩ ∧ b < B ∧ w.cell? ⟨b, off + k * 2, none⟩ = some (.int .i64 ss[k].1) ∧ w.cell? ⟨b, off + k * 2 + 1, none⟩ = some (.int .i64 ss[k].2) := by
 obtain ⟨h1, _, A', c', h3, h4, h5⟩ := h
 injection h3 with a b d
 subst a
 obtain ⟨b, off, e, hb, hc⟩ := h5 (by omega)
 obtain ⟨g1, g2⟩ := spanCells_get ss k hk
 exact ⟨b, off, e, hb, hc _ _ g1, hc _ _ g2⟩
end
/-! Grids. -/
structure G where
 W : Int
 H : Int
 S : Int
 ss : List (Int × Int)
deriving DecidableEq
def GridAt (w : World) (B : Nat) (x : Value) (g : G) : Prop := ∃ v, x = .agg #[.int .i64 g.W, .int .i64 g.H, .int .i64 g.S, v] ∧ SpansAt w B v g.ss
theorem GridAt.below {w w' : World} {B : Nat} {x : Value} {g : G} (h : GridAt w B x g) (hb : Below B w w') : GridAt w' B x g := by
 obtain ⟨v, e, hs⟩ := h
 exact ⟨v, e, hs.below hb⟩
theorem GridAt.more {w : World} {B B' : Nat} {x : Value} {g : G} (h : GridAt w B x g) (hb : B ≤ B') : GridAt w B' x g := by
 obtain ⟨v, e, hs⟩ := h
 exact ⟨v, e, hs.more hb⟩
theorem GridAt.later {w w' : World} {B : Nat} {x : Value} {g : G} (h : GridAt w B x g) (hb : Below B w w') (hB : B ≤ w.heap.size) : GridAt w' w'.heap.size x g := by
 obtain ⟨v, e, hs⟩ := h
 exact ⟨v, e, hs.later hb hB⟩
/-- 'w' grew out of w below w's own size', of three steps. -/
theorem Below.self_trans {a b c : World} (h : Below a.heap.size a b) (k : Below b.heap.size b c) : Below a.heap.size a c := h.trans (k.mono h.size)
theorem bcell {B : Nat} {W w1 : World} (hb : Below B W w1) : (∀ b o, b < B → w1.cell? ⟨b, o, none⟩ = W.cell? ⟨b, o, none⟩) ∧ (∀ b o, b < B → w1.frozen? ⟨b, o, none⟩ = W.frozen? ⟨b, o, none⟩) :=
 ⟨fun b o h => hb.cell (p := ⟨b, o, none⟩) h, fun b o h => hb.frozen (p := ⟨b, o, none⟩) h⟩
theorem Below.drewN' {B : Nat} {a w : World} (h : Below B a w) (n : Nat) : Below B a (w.drewN n) := ⟨h.os, h.tape, h.output, h.size, h.block⟩
theorem quiet_left {P : Program} {f : FuncId} {args : Array Value} {w : World} {n : Nat} {v : Value}
 (h : Calls P f args (w.drewN n) fun e w' => e = .returned v ∧ w.drewN n = w') : Calls P f args (w.drewN n) fun e w'' => e = .returned v ∧ ∃ m, w'' = w.drewN m :=
 h.mono fun _ _ ⟨he, hm⟩ => ⟨he, n, hm.symm⟩
theorem spanCells_set (l : List (Int × Int)) (k : Nat) (s : Int × Int) (h : k < l.length) : spanCells (l.set k s) = ((spanCells l).set (k * 2) (.int .i64 s.1)).set (k * 2 + 1) (.int .i64 s.2) := by
 induction l generalizing k with
 | nil => simp at h
 | cons x l ih =>
  cases k with
  | zero => simp [spanCells]
  | succ k =>
   have := ih k (by simpa using h)
   have e1 : (k + 1) * 2 = k * 2 + 2 := by omega
   simp only [spanCells, List.flatMap_cons, List.cons_append, List.nil_append, List.set_cons_succ] at this ⊢
   rw [e1]
   simp [this]
theorem madeCells_two (z : Value) (n : Nat) : (madeCells #[z, z] n).toList = List.replicate n z := by
 apply List.ext_getElem?
 intro j
 by_cases hj : j < n
 · have : j % 2 = 0 ∨ j % 2 = 1 := by omega
   rcases this with h | h <;> simp [madeCells, hj, h]
 · simp [madeCells, hj]
theorem spanCells_zero (n : Nat) : (madeCells #[.int .i64 0, .int .i64 0] (n * 2)).toList = spanCells (List.replicate n ((0 : Int), (0 : Int))) := by
 rw [madeCells_two]
 induction n with
 | zero => rfl
 | succ n ih =>
  have e1 : (n + 1) * 2 = n * 2 + 1 + 1 := by omega
  rw [e1, List.replicate_succ, List.replicate_succ, ih]
  simp [spanCells, List.replicate_succ]
section
variable {w : World} {base e g cap : Nat}
theorem own_spans_at {l : List (Int × Int)} {n : Nat} (h : w.ownsRow base e 2 (.slice (some ⟨g, 0, none⟩) n cap) n (spanCells l)) {k : Nat} (hk : k < l.length) :
 w.cell? ⟨g, k * 2, none⟩ = some (.int .i64 l[k].1) ∧ w.cell? ⟨g, k * 2 + 1, none⟩ = some (.int .i64 l[k].2) := by
 have hn := h.1
 rw [spanCells_length] at hn
 obtain ⟨h1, h2⟩ := spanCells_get l k hk
 exact ⟨(h.cellAt _ (by omega)).trans h1, (h.cellAt _ (by omega)).trans h2⟩
theorem own_spans_set {l : List (Int × Int)} {n : Nat} (h : w.ownsRow base e 2 (.slice (some ⟨g, 0, none⟩) n cap) n (spanCells l)) {k : Nat} (hk : k < l.length) (a b : Int) :
 ((w.setCell ⟨g, k * 2, none⟩ (.int .i64 a)).setCell ⟨g, k * 2 + 1, none⟩ (.int .i64 b)).ownsRow base e 2 (.slice (some ⟨g, 0, none⟩) n cap) n (spanCells (l.set k (a, b))) := by
 rw [spanCells_set l k (a, b) hk]
 exact ((h.stored (k * 2) (.int .i64 a)).1.stored (k * 2 + 1) (.int .i64 b)).1
end
theorem run_make_rowN {P : Program} (t e : TypeId) (i : TypeInfo) (z : Value) (ht : P.underlying t = some (.slice e)) (hi : P.info? e = some i) (hz : i.zero = some z)
 (kl kc : IntKind) (n c : Nat) (hnc : n ≤ c) (hbytes : i.bytes * c ≤ 281474976710656) (h63 : c ≤ 9223372036854775807) (w : World) :
 (Instr.makeSlice t (.int kl (n : Int)) (.int kc (c : Int))).run P w = .ok (.slice (some ⟨w.heap.size, 0, none⟩) n c) (w.alloc (.cells (madeCells z.cells (c * i.size)) e)) := by
 have hb : (i.bytes : Int) * (c : Int) ≤ 281474976710656 := by
  have h : ((i.bytes * c : Nat) : Int) ≤ 281474976710656 := by omega
  rwa [Int.natCast_mul] at h
 have hr := run_make (P := P) w t e i z ht hi hz kl kc n c (by omega) (by omega) hb (by omega)
 simp only [Int.toNat_natCast] at hr
 exact hr
theorem own_made (w : World) (e : TypeId) (z : Array Value) (n size base : Nat) (hb : base ≤ w.heap.size) (hn : n ≤ 65536) :
 (w.alloc (.cells (madeCells z (n * size)) e)).ownsRow base e size (.slice (some ⟨w.heap.size, 0, none⟩) n n) n (madeCells z (n * size)).toList :=
 World.ownsRow_lit w (madeCells z (n * size)) n hb (by unfold maxLen; omega) (size_madeCells _ _)
theorem add_i64 {a b : Int} (h : a = b) : Value.int .i64 a = Value.int .i64 b := by rw [h]
theorem ret_int {k : IntKind} {a b : Int} (h : a = b) : Ending.returned (.int k a) = .returned (.int k b) := by rw [h]
theorem ret_bool {a b : Bool} (h : a = b) : Ending.returned (.bool a) = .returned (.bool b) := by rw [h]
theorem hid_not {p : Bool} (h : ¬ p = true) : Hid (p = false) := by simpa [Hid] using h
theorem take_snoc {α : Type} (l : List α) (k : Nat) (h : k < l.length) : l.take (k + 1) = l.take k ++ [l[k]] := by
 rw [List.take_succ_eq_append_getElem h]
end Go.Proofs.YtdhcdgfpkjdihaaDoor
