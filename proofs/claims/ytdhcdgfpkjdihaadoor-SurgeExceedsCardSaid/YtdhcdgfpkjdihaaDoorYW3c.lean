/-
  Layer 3, the rows: rows of spans among a law's arguments.
-/
import Derived.Test.YtdhcdgfpkjdihaaDoorYW3a
set_option linter.unusedSimpArgs false
set_option linter.unusedVariables false
namespace Go.Proofs.YtdhcdgfpkjdihaaDoor.Sg
open Go.ChangeShapes Go.WideShapes Go.ChangeAt Go.WideMaps Go.WideElems Go.RowKit Go.Shelf Go.Deep
theorem plain_of_cell_ {W : World} {a : Addr} {u : Value} (h : W.cell? a = some u) : ∃ b off, a = ⟨b, off, none⟩ ∧ b < W.heap.size := by
 obtain ⟨b, off, sp⟩ := a
 have hlt := World.block_lt_of_cell? W _ h
 cases sp with
 | none => exact ⟨b, off, rfl, hlt⟩
 | some x =>
  exfalso
  unfold World.cell? at h
  split at h <;> simp at h
theorem spans_open_ {H : Type} {enc : TypeId × Value → H} {W : World} {sp : Nat → Bool} {held : Bool} {fuel : Nat} {c : Value} {x : DataW H × List MemPlace} (h : DataW.trod enc Tryd.prog W 0 sp held fuel 22 [c] = some x) : ∃ ss, SpansAt W W.heap.size c ss := by
 have hc0 : Tryd.prog.cellsOf 3 = 1 := by kernel_rfl
 rcases open_slice_pairs Tryd.underlying22 Tryd.underlying26 (by kernel_rfl) rfl rfl (by kernel_rfl) (by kernel_rfl) h with ⟨hc, _⟩ | ⟨a, len, cap, m, n, V0, V1, D0, D1, P0, P1, hc, _, hl, hm, hmm, _, hall⟩
 · injection hc with hc
   subst hc
   exact ⟨[], Reads.nil _ _ _⟩
 · injection hc with hc
   subst hc
   have hlm : len ≤ m := by rw [hmm]; split <;> omega
   have hV : ∀ i, i < len → ∃ z : Int × Int, W.cell? (a.add (i * 2)) = some (.int .i64 z.1) ∧ W.cell? (a.add (i * 2 + 1)) = some (.int .i64 z.2) := fun i hi => by
    obtain ⟨h1, h2, h3, h4⟩ := hall i (by omega)
    obtain ⟨z0, e0, _⟩ := DataW.trod_int Tryd.underlying3 h3
    obtain ⟨z1, e1, _⟩ := DataW.trod_int Tryd.underlying3 h4
    injection e0 with e0
    injection e1 with e1
    exact ⟨(z0, z1), by rw [h1, e0], by rw [h2, e1]⟩
   obtain ⟨z, hz⟩ := choose_lt hV
   refine ⟨(List.range len).map z, ?_⟩
   have hsl : ((List.range len).map z).length = len := by simp
   refine ⟨spanCells_length _, by rw [hsl]; unfold maxLen at hm; omega, some a, cap, by rw [hsl], by rw [hsl]; exact hl, fun hn => ?_⟩
   rw [hsl] at hn
   obtain ⟨b, off, ea, hb⟩ := plain_of_cell_ (hz 0 hn).1
   have e0 : a.add (0 * 2) = a := by cases a; unfold Addr.add; split <;> simp_all
   rw [e0] at ea
   subst ea
   refine ⟨b, off, rfl, hb, fun j u hu => ?_⟩
   have hj : j < len * 2 := by
    have := (List.getElem?_eq_some_iff.1 hu).1
    rw [spanCells_length, hsl] at this
    exact this
   have hi : j / 2 < len := by omega
   obtain ⟨g1, g2⟩ := spanCells_get ((List.range len).map z) (j / 2) (by rw [hsl]; exact hi)
   obtain ⟨k1, k2⟩ := hz (j / 2) hi
   have ead : ∀ q, (⟨b, off, none⟩ : Addr).add q = ⟨b, off + q, none⟩ := fun q => by unfold Addr.add; split <;> simp_all
   rw [ead] at k1 k2
   by_cases he : j % 2 = 0
   · have ej : j / 2 * 2 = j := by omega
     rw [ej] at g1 k1
     rw [g1] at hu
     rw [k1, ← hu]
     simp
   · have ej : j / 2 * 2 + 1 = j := by omega
     rw [ej] at g2 k2
     rw [g2] at hu
     rw [k2, ← hu]
     simp
set_option maxRecDepth 100000 in
theorem row_open {H : Type} {enc : TypeId × Value → H} {W : World} {base : Nat} {sp : Nat → Bool} {held : Bool} {v : Value} {d : DataW H} {p : List MemPlace} (hval : Value.okWide Tryd.prog W .any base 22 v) (h : DataW.Trod enc Tryd.prog W 0 sp held 22 v d p) :
 ∃ A c l, v = .slice A l.length c ∧ SpansAt W W.heap.size (.slice A l.length c) l ∧ l.length ≤ c ∧ l.length ≤ 9223372036854775807 := by
 obtain ⟨a0, n0, c0, rfl⟩ := okWide_slice Tryd.underlying22 hval
 obtain ⟨fuel, hf⟩ := h
 obtain ⟨l, hl⟩ := spans_open_ (c := .slice a0 n0 c0) hf
 obtain ⟨A, c, e, h1, h2⟩ := hl.open_
 rw [e] at hl ⊢
 exact ⟨A, c, l, rfl, hl, h1, h2⟩
end Go.Proofs.YtdhcdgfpkjdihaaDoor.Sg
