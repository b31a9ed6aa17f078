/-
  Layer 2: rows of triples of numbers of 32 bits, read as what they are.
-/
import Derived.Test.YtfblpokjbopagaaMQ
import Derived.Test.YtfblpokjbopagaaMS
import Derived.Laws.IdiomArrays
set_option linter.unusedSimpArgs false
set_option linter.unusedVariables false
namespace Go.Proofs.Ytfblpokjbopagaa
open Go.ChangeShapes Go.WideShapes Go.ChangeAt Go.WideMaps Go.WideElems Go.RowKit Go.Deep

theorem plain_of_cell {W : World} {a : Addr} {u : Value} (h : W.cell? a = some u) : ∃ b off, a = ⟨b, off, none⟩ ∧ b < W.heap.size := by
  obtain ⟨b, off, sp⟩ := a
  have hlt := World.block_lt_of_cell? W _ h
  cases sp with
  | none => exact ⟨b, off, rfl, hlt⟩
  | some x =>
    exfalso
    unfold World.cell? at h
    split at h <;> simp at h
theorem add_plain_ (b off q : Nat) : (⟨b, off, none⟩ : Addr).add q = ⟨b, off + q, none⟩ := by unfold Addr.add; split <;> simp_all
theorem add_zero_ (a : Addr) : a.add 0 = a := by cases a; unfold Addr.add; split <;> simp_all
theorem tripCells_length (l : List Prt) : (tripCells l).length = l.length * 3 := by
  induction l with
  | nil => rfl
  | cons s l ih => simp [tripCells] at ih ⊢; omega
set_option maxRecDepth 100000 in
theorem trips_open {H : Type} {enc : TypeId × Value → H} {W : World} {base : Nat} {sp : Nat → Bool} {held : Bool} {v : Value} {d : DataW H} {p : List MemPlace} (hval : Value.okWide Try.prog W .any base 66 v) (h : DataW.Trod enc Try.prog W 0 sp held 66 v d p) : ∃ l, TripsAt W W.heap.size v l ∧ ∀ x, x ∈ l → u32Ok x := by
  have c1 : Try.prog.cellsOf 67 = 1 := by kernel_rfl
  have ce : Try.prog.cellsOf 92 = 3 := by kernel_rfl
  obtain ⟨a0, n0, c0, rfl⟩ := okWide_slice Try.underlying66 hval
  obtain ⟨fuel, hf⟩ := h
  rcases open_slice Try.underlying66 hf with ⟨hc, _⟩ | ⟨a, len, cap, m, n, D, Pl, hc, _, hl, hm, hmm, _, hall⟩
  · simp [Value.cells] at hc
    obtain ⟨rfl, rfl, rfl⟩ := hc
    exact ⟨[], Reads.nil _ _ _, fun x hx => by cases hx⟩
  · simp [Value.cells] at hc
    obtain ⟨rfl, rfl, rfl⟩ := hc
    have hlm : n0 ≤ m := by rw [hmm]; split <;> omega
    have hV : ∀ i, i < n0 → ∃ z : Prt, u32Ok z ∧ W.cell? (a.add (i * 3)) = some (.int .u32 z.1) ∧ W.cell? (a.add (i * 3 + 1)) = some (.int .u32 z.2.1) ∧ W.cell? (a.add (i * 3 + 2)) = some (.int .u32 z.2.2) := fun i hi => by
      obtain ⟨cs', h1, h2⟩ := hall i (by omega)
      rw [ce] at h1
      obtain ⟨_, hlen, hcell⟩ := World.cells?_some h1
      match cs', hlen with
      | [x0, x1, x2], _ =>
        obtain ⟨y0, y1, y2, k, _, g0, g1, g2⟩ := trod_array3 Try.underlying92 c1 h2
        obtain ⟨z0, e0, _, w0⟩ := DataW.trod_int Try.underlying67 g0
        obtain ⟨z1, e1, _, w1⟩ := DataW.trod_int Try.underlying67 g1
        obtain ⟨z2, e2, _, w2⟩ := DataW.trod_int Try.underlying67 g2
        injection e0 with e0
        injection e1 with e1
        injection e2 with e2
        subst e0 e1 e2
        have k0 := hcell 0 (by omega)
        have k1 := hcell 1 (by omega)
        have k2 := hcell 2 (by omega)
        rw [add_add] at k0 k1 k2
        exact ⟨(z0, z1, z2), ⟨wf_u32 w0, wf_u32 w1, wf_u32 w2⟩, by simpa using k0, by simpa using k1, by simpa using k2⟩
    obtain ⟨z, hz⟩ := choose_lt hV
    have hsl : ((List.range n0).map z).length = n0 := by simp
    have hU : ∀ x, x ∈ (List.range n0).map z → u32Ok x := fun x hx => by
      obtain ⟨i, hi, rfl⟩ := List.mem_map.1 hx
      exact (hz i (List.mem_range.1 hi)).1
    refine ⟨(List.range n0).map z, ⟨tripCells_length _, by rw [hsl]; unfold maxLen at hm; omega, some a, c0, by rw [hsl], by rw [hsl]; exact hl, fun hn => ?_⟩, hU⟩
    rw [hsl] at hn
    obtain ⟨b, off, ea, hb⟩ := plain_of_cell (hz 0 hn).2.1
    rw [Nat.zero_mul, add_zero_] at ea
    subst ea
    refine ⟨b, off, rfl, hb, fun j u hu => ?_⟩
    have hj : j < n0 * 3 := by
      have := (List.getElem?_eq_some_iff.1 hu).1
      rw [tripCells_length, hsl] at this
      exact this
    have hi : j / 3 < n0 := by omega
    obtain ⟨g1, g2, g3⟩ := tripCells_get ((List.range n0).map z) (j / 3) (by rw [hsl]; exact hi)
    obtain ⟨_, k1, k2, k3⟩ := hz (j / 3) hi
    rw [add_plain_] at k1 k2 k3
    have hr : j % 3 = 0 ∨ j % 3 = 1 ∨ j % 3 = 2 := by omega
    rcases hr with he | he | he
    · have ej : j / 3 * 3 = j := by omega
      rw [ej] at g1 k1
      rw [g1] at hu
      rw [k1, ← hu]
      simp
    · have ej : j / 3 * 3 + 1 = j := by omega
      rw [ej] at g2 k2
      rw [g2] at hu
      rw [k2, ← hu]
      simp
    · have ej : j / 3 * 3 + 2 = j := by omega
      rw [ej] at g3 k3
      rw [g3] at hu
      rw [k3, ← hu]
      simp

end Go.Proofs.Ytfblpokjbopagaa
