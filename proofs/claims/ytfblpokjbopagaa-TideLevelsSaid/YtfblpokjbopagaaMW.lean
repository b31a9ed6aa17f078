/-
  Layer 2: the document's models, read as what they are.
-/
import Derived.Test.YtfblpokjbopagaaMT
import Derived.Test.YtfblpokjbopagaaMO
set_option linter.unusedSimpArgs false
set_option linter.unusedVariables false
namespace Go.Proofs.Ytfblpokjbopagaa
open Go.ChangeShapes Go.WideShapes Go.ChangeAt Go.WideMaps Go.WideElems Go.RowKit Go.Deep

set_option maxRecDepth 100000 in
theorem rprts_cells {H : Type} {enc : TypeId × Value → H} {W : World} {sp : Nat → Bool} {held : Bool} {fuel : Nat} {x1 : Value} {y : DataW H × List MemPlace} (hf : DataW.trod enc Try.prog W 0 sp held fuel 29 [x1] = some y) : ∃ l, PrtsAt W W.heap.size x1 l ∧ Sound x1 := by
  have c1 : Try.prog.cellsOf 3 = 1 := by kernel_rfl
  have ce : Try.prog.cellsOf 80 = 3 := by kernel_rfl
  rcases open_slice Try.underlying29 hf with ⟨hc, _⟩ | ⟨a, n0, c0, m, n, D, Pl, hc, _, hl, hm, hmm, _, hall⟩
  · injection hc with hc _
    subst hc
    exact ⟨[], Reads.nil _ _ _, Or.inl rfl⟩
  · injection hc with hc _
    subst hc
    have hlm : n0 ≤ m := by rw [hmm]; split <;> omega
    have hV : ∀ i, i < n0 → ∃ z : Prt, W.cell? (a.add (i * 3)) = some (.int .i64 z.1) ∧ W.cell? (a.add (i * 3 + 1)) = some (.int .i64 z.2.1) ∧ W.cell? (a.add (i * 3 + 2)) = some (.int .i64 z.2.2) := fun i hi => by
      obtain ⟨cs', h1, h2⟩ := hall i (by omega)
      rw [ce] at h1
      obtain ⟨_, hlen, hcell⟩ := World.cells?_some h1
      obtain ⟨y0, y1, y2, k, _, _, g0, g1, g2⟩ := trod_struct3 Try.underlying80 h2
      simp only [c1] at g0 g1 g2
      match cs', hlen with
      | [x0, x1, x2], _ =>
        obtain ⟨z0, e0, _⟩ := DataW.trod_int Try.underlying3 g0
        obtain ⟨z1, e1, _⟩ := DataW.trod_int Try.underlying3 g1
        obtain ⟨z2, e2, _⟩ := DataW.trod_int Try.underlying3 g2
        injection e0 with e0
        injection e1 with e1
        injection e2 with e2
        subst e0 e1 e2
        have k0 := hcell 0 (by omega)
        have k1 := hcell 1 (by omega)
        have k2 := hcell 2 (by omega)
        rw [add_add] at k0 k1 k2
        exact ⟨(z0, z1, z2), by simpa using k0, by simpa using k1, by simpa using k2⟩
    obtain ⟨z, hz⟩ := choose_lt hV
    have hsl : ((List.range n0).map z).length = n0 := by simp
    refine ⟨(List.range n0).map z, ⟨prtCells_length _, by rw [hsl]; unfold maxLen at hm; omega, some a, c0, by rw [hsl], by rw [hsl]; exact hl, fun hn => ?_⟩, Or.inr ⟨_, _, _, rfl⟩⟩
    rw [hsl] at hn
    obtain ⟨b, off, ea, hb⟩ := plain_of_cell (hz 0 hn).1
    rw [Nat.zero_mul, add_zero_] at ea
    subst ea
    refine ⟨b, off, rfl, hb, fun j u hu => ?_⟩
    have hj : j < n0 * 3 := by
      have := (List.getElem?_eq_some_iff.1 hu).1
      rw [prtCells_length, hsl] at this
      exact this
    have hi : j / 3 < n0 := by omega
    obtain ⟨g1, g2, g3⟩ := prtCells_get ((List.range n0).map z) (j / 3) (by rw [hsl]; exact hi)
    obtain ⟨k1, k2, k3⟩ := hz (j / 3) hi
    rw [add_plain_] at k1 k2 k3
    have hr : j % 3 = 0 ∨ j % 3 = 1 ∨ j % 3 = 2 := by omega
    rcases hr with he | he | he
    · have ej : j / 3 * 3 = j := by omega
      rw [ej] at g1 k1
      rw [g1] at hu
      rw [k1, ← hu]
      simp
    · have ej : j / 3 * 3 + 1 = j := by omega
      rw [ej] at g2 k2
      rw [g2] at hu
      rw [k2, ← hu]
      simp
    · have ej : j / 3 * 3 + 2 = j := by omega
      rw [ej] at g3 k3
      rw [g3] at hu
      rw [k3, ← hu]
      simp
set_option maxRecDepth 100000 in
theorem rmd_open {H : Type} {enc : TypeId × Value → H} {W : World} {base : Nat} {sp : Nat → Bool} {held : Bool} {v : Value} {d : DataW H} {p : List MemPlace} (hval : Value.okWide Try.prog W .any base 31 v) (h : DataW.Trod enc Try.prog W 0 sp held 31 v d p) :
    ∃ m x l, v = .agg #[.int .i64 m, x] ∧ PrtsAt W W.heap.size x l ∧ Sound x := by
  unfold Value.okWide at hval
  rw [Try.underlying31] at hval
  obtain ⟨cs, rfl, hcs, -⟩ := hval
  obtain ⟨fuel, hf⟩ := h
  have c1 : Try.prog.cellsOf 3 = 1 := by kernel_rfl
  have c4 : Try.prog.cellsOf 31 = 2 := by kernel_rfl
  rw [c4] at hcs
  obtain ⟨l⟩ := cs
  match l, hcs with
  | [x0, x1], _ =>
    obtain ⟨y0, y1, n, _, hl, h0, h1⟩ := trod_struct2 Try.underlying31 hf
    simp only [c1] at h0 h1
    obtain ⟨z0, e0, _⟩ := DataW.trod_int Try.underlying3 h0
    injection e0 with e0
    subst e0
    obtain ⟨l, hp, hs⟩ := rprts_cells h1
    exact ⟨z0, x1, l, rfl, hp, hs⟩
end Go.Proofs.Ytfblpokjbopagaa
