/-
  Layer 3: lists of winds in memory; what a run gives.
-/
import Derived.Test.YtdhcdgfpkjdihaaDoorVA3e
import Derived.Test.YtdhcdgfpkjdihaaDoorVA3g
set_option linter.unusedSimpArgs false
set_option linter.unusedVariables false
namespace Go.Proofs.YtdhcdgfpkjdihaaDoor.Sg
open Go.RowKit
def wiC (x : Wi) : List Value := [.int .i64 x.s.1, .int .i64 x.s.2, .int .i64 x.n, .int .i64 x.p.1, .int .i64 x.p.2]
def wiCells (l : List Wi) : List Value := l.flatMap wiC
def WindsAt (w : World) (B : Nat) (v : Value) (l : List Wi) : Prop := Reads w B 5 v l.length (wiCells l)
theorem wiCells_length (l : List Wi) : (wiCells l).length = l.length * 5 := by
 induction l with
 | nil => rfl
 | cons s l ih => simp [wiCells, wiC] at ih ⊢; omega
theorem wiCells_append (l m : List Wi) : wiCells (l ++ m) = wiCells l ++ wiCells m := by simp [wiCells]
theorem wiCells_get (l : List Wi) (k : Nat) (h : k < l.length) : (wiCells l)[k * 5]? = some (.int .i64 l[k].s.1) ∧ (wiCells l)[k * 5 + 1]? = some (.int .i64 l[k].s.2) ∧ (wiCells l)[k * 5 + 2]? = some (.int .i64 l[k].n) ∧ (wiCells l)[k * 5 + 3]? = some (.int .i64 l[k].p.1) ∧ (wiCells l)[k * 5 + 4]? = some (.int .i64 l[k].p.2) := by
 induction l generalizing k with
 | nil => simp at h
 | cons s l ih =>
  cases k with
  | zero => simp [wiCells, wiC]
  | succ k =>
   have := ih k (by simpa using h)
   have e0 : (k + 1) * 5 = k * 5 + 5 := by omega
   simp only [wiCells, List.flatMap_cons, List.getElem_cons_succ, wiC, List.cons_append, List.nil_append] at this ⊢
   rw [e0]
   exact ⟨by simpa using this.1, by simpa using this.2.1, by simpa using this.2.2.1, by simpa using this.2.2.2.1, by simpa using this.2.2.2.2⟩
section
variable {w w' : World} {B B' : Nat} {v : Value} {l : List Wi}
theorem WindsAt.below (h : WindsAt w B v l) (hb : Below B w w') : WindsAt w' B v l := Reads.below h hb
theorem WindsAt.more (h : WindsAt w B v l) (hB : B ≤ B') : WindsAt w B' v l := Reads.more h hB
theorem WindsAt.later (h : WindsAt w B v l) (hb : Below B w w') (hB : B ≤ w.heap.size) : WindsAt w' w'.heap.size v l := Reads.later h hb hB
theorem WindsAt.open_ (h : WindsAt w B v l) : ∃ A c, v = .slice A l.length c ∧ l.length ≤ c ∧ l.length ≤ 9223372036854775807 := by
 obtain ⟨_, h2, A, c, h3, h4, _⟩ := h
 exact ⟨A, c, h3, h4, h2⟩
theorem WindsAt.at_ {A : Option Addr} {n c : Nat} (h : WindsAt w B (.slice A n c) l) {k : Nat} (hk : k < l.length) :
 ∃ b off, A = some ⟨b, off, none⟩ ∧ b < B ∧ w.cell? ⟨b, off + k * 5, none⟩ = some (.int .i64 l[k].s.1) ∧ w.cell? ⟨b, off + k * 5 + 1, none⟩ = some (.int .i64 l[k].s.2) ∧ w.cell? ⟨b, off + k * 5 + 2, none⟩ = some (.int .i64 l[k].n) ∧ w.cell? ⟨b, off + k * 5 + 3, none⟩ = some (.int .i64 l[k].p.1) ∧ w.cell? ⟨b, off + k * 5 + 4, none⟩ = some (.int .i64 l[k].p.2) := by
 obtain ⟨h1, _, A', c', h3, h4, h5⟩ := h
 injection h3 with a b d
 subst a
 obtain ⟨b, off, e, hb, hc⟩ := h5 (by omega)
 obtain ⟨g1, g2, g3, g4, g5⟩ := wiCells_get l k hk
 exact ⟨b, off, e, hb, hc _ _ g1, hc _ _ g2, hc _ _ g3, hc _ _ g4, hc _ _ g5⟩
end
theorem own_base3 {w : World} {base base' e size n : Nat} {v : Value} {xs : List Value} (h : w.ownsRow base e size v n xs) (hb : base' ≤ base) : w.ownsRow base' e size v n xs := by
 obtain ⟨h1, h2⟩ := h
 refine ⟨h1, ?_⟩
 rcases h2 with h2 | ⟨g, cap, cur, hv, hg, r⟩
 · exact .inl h2
 · exact .inr ⟨g, cap, cur, hv, Nat.le_trans hb hg, r⟩
/-! A run. -/
def runAE (g : G) (sea : Int × Int) (m : Mo) (c : Int) (z : Int × Int) (l : List Wi) : Int := andE (placeE g sea m c) (andE (runE z l.length) (windsE l))
def runV (g : G) (sea : Int × Int) (m : Mo) (c : Int) (z : Int × Int) (l : List Wi) : List (Int × Int) := if runAE g sea m c z l = 0 then runZ g sea m c z l else []
theorem runE_zero {z : Int × Int} {n : Int} (h : runE z n = 0) : finB z ∧ n ≤ 500 ∧ z.1 ≤ z.2 := by
 have h1 := andE_zero.1 h
 have h2 := spOk_iff.1 (spE_zero h1.1)
 have h3 := h1.2
 split at h3
 · cases h3
 · exact ⟨by unfold finB; omega, by omega, h2.1⟩
theorem steady_fin {g : G} {sea : Int × Int} {m : Mo} {c : Int} {w : Wi} (hp : placeE g sea m c = 0) (hw : wiE w = 0) : finB (steadyZ g sea m c w) ∧ ((-10000000000 ≤ (steadyZ g sea m c w).1 ∧ (steadyZ g sea m c w).1 ≤ 10000000000) ∧ (-10000000000 ≤ (steadyZ g sea m c w).2 ∧ (steadyZ g sea m c w).2 ≤ 10000000000)) := by
 obtain ⟨⟨hE, hse⟩, hm, hc0, hc1⟩ := placeE_zero hp
 obtain ⟨hW, hH, hS, hL, -⟩ := checkE_zero hE
 have h := steady_bd (c := c) (fun c => (gr_ok hE c).1) (spOk_iff.1 hse).1 hm hw hW hH hS (by omega)
 exact ⟨by unfold finB; omega, h⟩
theorem take_last (lag z : Int × Int) (l : List (Int × Int)) {k : Nat} (h : k < l.length) : levelsZ lag z (l.take (k + 1)) = levelsZ lag z (l.take k) ++ [lastZ lag z (l.take (k + 1))] ∧ lastZ lag z (l.take (k + 1)) = stepZ lag (lastZ lag z (l.take k)) l[k] := by
 rw [List.take_succ_eq_append_getElem h, levelsZ_snoc, lastZ_snoc]
 exact ⟨rfl, rfl⟩
end Go.Proofs.YtdhcdgfpkjdihaaDoor.Sg
