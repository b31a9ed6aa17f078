/-
  Other arguments of the laws read as what they are: rows of integers, spans.
-/
import Derived.Test.YthcenmocnphnmaaGreatDoorNF
import Derived.Test.YthcenmocnphnmaaGreatDoorMA
set_option linter.unusedSimpArgs false
set_option linter.unusedVariables false
namespace Go.Proofs.YthcenmocnphnmaaGreatDoor
open Go.ChangeShapes Go.WideShapes Go.ChangeAt Go.WideMaps Go.WideElems Go.RowKit Go.Shelf Go.Deep

theorem add_plain_ (b off q : Nat) : (⟨b, off, none⟩ : Addr).add q = ⟨b, off + q, none⟩ := by unfold Addr.add; split <;> simp_all
theorem add_zero_ (a : Addr) : a.add 0 = a := by cases a; unfold Addr.add; split <;> simp_all
/-- rows of numbers of one kind -/
def NumsAt (k : IntKind) (w : World) (B : Nat) (v : Value) (zs : List Int) : Prop := Reads w B 1 v zs.length (zs.map (Value.int k))
set_option maxRecDepth 100000 in
theorem nums_open {H : Type} {enc : TypeId × Value → H} {W : World} {base : Nat} {sp : Nat → Bool} {held : Bool} {v : Value} {d : DataW H} {p : List MemPlace} {t e : TypeId} {k : IntKind} (ht : Tryz.prog.underlying t = some (.slice e)) (he : Tryz.prog.underlying e = some (.int k)) (hc1 : Tryz.prog.cellsOf e = 1)
    (hval : Value.okWide Tryz.prog W .any base t v) (h : DataW.Trod enc Tryz.prog W 0 sp held t v d p) : ∃ zs, NumsAt k W W.heap.size v zs ∧ ∀ z ∈ zs, (Lit.int k z).wf = true := by
  obtain ⟨a0, n0, c0, rfl⟩ := okWide_slice ht hval
  obtain ⟨fuel, hf⟩ := h
  rcases open_slice1 ht hc1 hf with ⟨hc, _⟩ | ⟨a, len, cap, m, n, V, D, Pl, hc, _, hl, hm, hmm, _, hall⟩
  · simp [Value.cells] at hc
    obtain ⟨rfl, rfl, rfl⟩ := hc
    exact ⟨[], Reads.nil _ _ _, by simp⟩
  · simp [Value.cells] at hc
    obtain ⟨rfl, rfl, rfl⟩ := hc
    have hlm : n0 ≤ m := by rw [hmm]; split <;> omega
    have hV : ∀ i, i < n0 → ∃ z : Int, W.cell? (a.add i) = some (.int k z) ∧ (Lit.int k z).wf = true := fun i hi => by
      obtain ⟨h1, h2⟩ := hall i (by omega)
      obtain ⟨z0, e0, _, hw⟩ := DataW.trod_int he h2
      injection e0 with e0
      exact ⟨z0, by rw [h1, e0], hw⟩
    obtain ⟨z, hz⟩ := choose_lt hV
    have hsl : ((List.range n0).map z).length = n0 := by simp
    refine ⟨(List.range n0).map z, ⟨by simp, by rw [hsl]; unfold maxLen at hm; omega, some a, c0, by rw [hsl], by rw [hsl]; exact hl, fun hn => ?_⟩, fun x hx => ?_⟩
    · rw [hsl] at hn
      obtain ⟨b, off, ea, hb⟩ := plain_of_cell (hz 0 hn).1
      rw [add_zero_] at ea
      subst ea
      refine ⟨b, off, rfl, hb, fun j u hu => ?_⟩
      have hj : j < n0 := by
        have := (List.getElem?_eq_some_iff.1 hu).1
        simpa using this
      have k1 := (hz j hj).1
      rw [add_plain_] at k1
      rw [k1, ← hu]
      simp [hj]
    · obtain ⟨i, hi, rfl⟩ := List.mem_map.1 hx
      exact (hz i (List.mem_range.1 hi)).2
set_option maxRecDepth 100000 in
theorem ints_open {H : Type} {enc : TypeId × Value → H} {W : World} {base : Nat} {sp : Nat → Bool} {held : Bool} {v : Value} {d : DataW H} {p : List MemPlace} (hval : Value.okWide Tryz.prog W .any base 26 v) (h : DataW.Trod enc Tryz.prog W 0 sp held 26 v d p) : ∃ zs, IntsAt W W.heap.size v zs := by
  obtain ⟨zs, h1, _⟩ := nums_open Tryz.underlying26 Tryz.underlying3 (by kernel_rfl) hval h
  exact ⟨zs, h1⟩
set_option maxRecDepth 100000 in
theorem span_open {H : Type} {enc : TypeId × Value → H} {W : World} {base : Nat} {sp : Nat → Bool} {held : Bool} {v : Value} {d : DataW H} {p : List MemPlace} (hval : Value.okWide Tryz.prog W .any base 34 v) (h : DataW.Trod enc Tryz.prog W 0 sp held 34 v d p) : ∃ lo hi, v = .agg #[.int .i64 lo, .int .i64 hi] := by
  unfold Value.okWide at hval
  rw [Tryz.underlying34] at hval
  obtain ⟨cs, rfl, hcs, -⟩ := hval
  obtain ⟨fuel, hf⟩ := h
  have c1 : Tryz.prog.cellsOf 3 = 1 := by kernel_rfl
  have c4 : Tryz.prog.cellsOf 34 = 2 := by kernel_rfl
  rw [c4] at hcs
  obtain ⟨l⟩ := cs
  match l, hcs with
  | [x0, x1], _ =>
    obtain ⟨y0, y1, n, _, hl, h0, h1⟩ := trod_struct2 Tryz.underlying34 hf
    simp only [c1] at h0 h1
    obtain ⟨z0, e0, _⟩ := DataW.trod_int Tryz.underlying3 h0
    obtain ⟨z1, e1, _⟩ := DataW.trod_int Tryz.underlying3 h1
    injection e0 with e0
    injection e1 with e1
    subst e0 e1
    exact ⟨z0, z1, rfl⟩
set_option maxRecDepth 100000 in
theorem str_open {H : Type} {enc : TypeId × Value → H} {W : World} {base : Nat} {sp : Nat → Bool} {held : Bool} {v : Value} {d : DataW H} {p : List MemPlace} (hval : Value.okWide Tryz.prog W .any base 9 v) (h : DataW.Trod enc Tryz.prog W 0 sp held 9 v d p) : ∃ l, v = .string (bs l) := by
  obtain ⟨s, rfl, _⟩ := Go.ChangeMaps.open_string Tryz.underlying9 hval h
  exact ⟨s.data.toList, rfl⟩
end Go.Proofs.YthcenmocnphnmaaGreatDoor
/-
  Whether a grid is large, by its value.
-/
namespace Go.Proofs.YthcenmocnphnmaaGreatDoor
open Go.RowKit

theorem large_is (x : Value) (g : G) (b : Bool) (hb : decide (60 < g.ss.length) = b) (w : World) (hg : GridAt w w.heap.size x g) :
    Calls Tryz.prog 19 #[x] w fun e w' => e = .returned (.bool b) ∧ Below w.heap.size w w' := by
  subst hb
  exact large_any x g w hg
end Go.Proofs.YthcenmocnphnmaaGreatDoor
