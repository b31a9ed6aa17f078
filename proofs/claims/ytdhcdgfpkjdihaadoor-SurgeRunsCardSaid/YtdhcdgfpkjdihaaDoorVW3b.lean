/-
  Layer 3, the rows: grids, storms and rows of cuts among a law's arguments.
-/
import Derived.Test.YtdhcdgfpkjdihaaDoorVW3a
import Derived.Test.YtdhcdgfpkjdihaaDoorVL3c
set_option linter.unusedSimpArgs false
set_option linter.unusedVariables false
namespace Go.Proofs.YtdhcdgfpkjdihaaDoor.Sg
open Go.ChangeShapes Go.WideShapes Go.ChangeAt Go.WideMaps Go.WideElems Go.RowKit Go.Shelf Go.Deep
theorem plain_of_cell {W : World} {a : Addr} {u : Value} (h : W.cell? a = some u) : ∃ b off, a = ⟨b, off, none⟩ ∧ b < W.heap.size := by
 obtain ⟨b, off, sp⟩ := a
 have hlt := World.block_lt_of_cell? W _ h
 cases sp with
 | none => exact ⟨b, off, rfl, hlt⟩
 | some x =>
  exfalso
  unfold World.cell? at h
  split at h <;> simp at h
theorem spans_open {H : Type} {enc : TypeId × Value → H} {W : World} {sp : Nat → Bool} {held : Bool} {fuel : Nat} {c : Value} {x : DataW H × List MemPlace} (h : DataW.trod enc Tryd.prog W 0 sp held fuel 22 [c] = some x) : ∃ ss, SpansAt W W.heap.size c ss := by
 have hc0 : Tryd.prog.cellsOf 3 = 1 := by kernel_rfl
 rcases open_slice_pairs Tryd.underlying22 Tryd.underlying26 (by kernel_rfl) rfl rfl (by kernel_rfl) (by kernel_rfl) h with ⟨hc, _⟩ | ⟨a, len, cap, m, n, V0, V1, D0, D1, P0, P1, hc, _, hl, hm, hmm, _, hall⟩
 · injection hc with hc
   subst hc
   exact ⟨[], Reads.nil _ _ _⟩
 · injection hc with hc
   subst hc
   have hlm : len ≤ m := by rw [hmm]; split <;> omega
   have hV : ∀ i, i < len → ∃ z : Int × Int, W.cell? (a.add (i * 2)) = some (.int .i64 z.1) ∧ W.cell? (a.add (i * 2 + 1)) = some (.int .i64 z.2) := fun i hi => by
    obtain ⟨h1, h2, h3, h4⟩ := hall i (by omega)
    obtain ⟨z0, e0, _⟩ := DataW.trod_int Tryd.underlying3 h3
    obtain ⟨z1, e1, _⟩ := DataW.trod_int Tryd.underlying3 h4
    injection e0 with e0
    injection e1 with e1
    exact ⟨(z0, z1), by rw [h1, e0], by rw [h2, e1]⟩
   obtain ⟨z, hz⟩ := choose_lt hV
   refine ⟨(List.range len).map z, ?_⟩
   have hsl : ((List.range len).map z).length = len := by simp
   refine ⟨spanCells_length _, by rw [hsl]; unfold maxLen at hm; omega, some a, cap, by rw [hsl], by rw [hsl]; exact hl, fun hn => ?_⟩
   rw [hsl] at hn
   obtain ⟨b, off, ea, hb⟩ := plain_of_cell (hz 0 hn).1
   have e0 : a.add (0 * 2) = a := by cases a; unfold Addr.add; split <;> simp_all
   rw [e0] at ea
   subst ea
   refine ⟨b, off, rfl, hb, fun j u hu => ?_⟩
   have hj : j < len * 2 := by
    have := (List.getElem?_eq_some_iff.1 hu).1
    rw [spanCells_length, hsl] at this
    exact this
   have hi : j / 2 < len := by omega
   obtain ⟨g1, g2⟩ := spanCells_get ((List.range len).map z) (j / 2) (by rw [hsl]; exact hi)
   obtain ⟨k1, k2⟩ := hz (j / 2) hi
   have ead : ∀ q, (⟨b, off, none⟩ : Addr).add q = ⟨b, off + q, none⟩ := fun q => by unfold Addr.add; split <;> simp_all
   rw [ead] at k1 k2
   by_cases he : j % 2 = 0
   · have ej : j / 2 * 2 = j := by omega
     rw [ej] at g1 k1
     rw [g1] at hu
     rw [k1, ← hu]
     simp
   · have ej : j / 2 * 2 + 1 = j := by omega
     rw [ej] at g2 k2
     rw [g2] at hu
     rw [k2, ← hu]
     simp
theorem four_of {α : Type} {l : List α} (h : l.length = 4) : ∃ a b c d, l = [a, b, c, d] := by
 match l, h with
 | [a, b, c, d], _ => exact ⟨a, b, c, d, rfl⟩
set_option maxRecDepth 100000 in
theorem grid_open {H : Type} {enc : TypeId × Value → H} {W : World} {base : Nat} {sp : Nat → Bool} {held : Bool} {v : Value} {d : DataW H} {p : List MemPlace} (hval : Value.okWide Tryd.prog W .any base 24 v) (h : DataW.Trod enc Tryd.prog W 0 sp held 24 v d p) : ∃ WW HH SS A c ss, v = .agg #[.int .i64 WW, .int .i64 HH, .int .i64 SS, .slice A ss.length c] ∧ SpansAt W W.heap.size (.slice A ss.length c) ss := by
 unfold Value.okWide at hval
 rw [Tryd.underlying24] at hval
 obtain ⟨cs, rfl, hcs, -⟩ := hval
 obtain ⟨fuel, hf⟩ := h
 have c1 : Tryd.prog.cellsOf 3 = 1 := by kernel_rfl
 have c2 : Tryd.prog.cellsOf 22 = 1 := by kernel_rfl
 have c4 : Tryd.prog.cellsOf 24 = 4 := by kernel_rfl
 rw [c4] at hcs
 obtain ⟨l⟩ := cs
 match l, hcs with
 | [x0, x1, x2, x3], _ =>
  obtain ⟨xs, n, _, _, hl, hxl, hall⟩ := DataW.trod_struct Tryd.underlying24 hf
  obtain ⟨y0, y1, y2, y3, rfl⟩ := four_of (l := xs) hxl
  have h0 := hall 0 _ rfl
  have h1 := hall 1 _ rfl
  have h2 := hall 2 _ rfl
  have h3 := hall 3 _ rfl
  simp only [c1, c2, List.getElem?_cons_zero, List.getElem?_cons_succ] at h0 h1 h2 h3
  obtain ⟨z0, e0, _⟩ := DataW.trod_int Tryd.underlying3 h0
  obtain ⟨z1, e1, _⟩ := DataW.trod_int Tryd.underlying3 h1
  obtain ⟨z2, e2, _⟩ := DataW.trod_int Tryd.underlying3 h2
  obtain ⟨ss, hs⟩ := spans_open h3
  injection e0 with e0
  injection e1 with e1
  injection e2 with e2
  subst e0 e1 e2
  obtain ⟨A, c, rfl, -, -⟩ := hs.open_
  exact ⟨z0, z1, z2, A, c, ss, rfl, hs⟩
theorem cuts_open0 {H : Type} {enc : TypeId × Value → H} {W : World} {sp : Nat → Bool} {held : Bool} {fuel : Nat} {c : Value} {x : DataW H × List MemPlace} (h : DataW.trod enc Tryd.prog W 0 sp held fuel 79 [c] = some x) : ∃ l, CutsAt W W.heap.size c l ∧ ∀ x ∈ l, (0 ≤ x.1 ∧ x.1 < 4294967296) ∧ (0 ≤ x.2 ∧ x.2 < 4294967296) := by
 have hc0 : Tryd.prog.cellsOf 94 = 1 := by kernel_rfl
 rcases open_slice_pairs Tryd.underlying79 Tryd.underlying96 (by kernel_rfl) rfl rfl (by kernel_rfl) (by kernel_rfl) h with ⟨hc, _⟩ | ⟨a, len, cap, m, n, V0, V1, D0, D1, P0, P1, hc, _, hl, hm, hmm, _, hall⟩
 · injection hc with hc
   subst hc
   exact ⟨[], Reads.nil _ _ _, fun x hx => by cases hx⟩
 · injection hc with hc
   subst hc
   have hlm : len ≤ m := by rw [hmm]; split <;> omega
   have hV : ∀ i, i < len → ∃ z : Int × Int, W.cell? (a.add (i * 2)) = some (.int .u32 z.1) ∧ W.cell? (a.add (i * 2 + 1)) = some (.int .u32 z.2) ∧ (0 ≤ z.1 ∧ z.1 < 4294967296) ∧ (0 ≤ z.2 ∧ z.2 < 4294967296) := fun i hi => by
    obtain ⟨h1, h2, h3, h4⟩ := hall i (by omega)
    obtain ⟨z0, e0, _, w0⟩ := DataW.trod_int Tryd.underlying94 h3
    obtain ⟨z1, e1, _, w1⟩ := DataW.trod_int Tryd.underlying94 h4
    injection e0 with e0
    injection e1 with e1
    exact ⟨(z0, z1), by rw [h1, e0], by rw [h2, e1], wf_u32 w0, wf_u32 w1⟩
   obtain ⟨z, hz⟩ := choose_lt hV
   have hsl : ((List.range len).map z).length = len := by simp
   refine ⟨(List.range len).map z, ?_, fun x hx => by
    obtain ⟨i, hi, rfl⟩ := List.mem_map.1 hx
    exact (hz i (List.mem_range.1 hi)).2.2⟩
   refine ⟨cuCells_length _, by rw [hsl]; unfold maxLen at hm; omega, some a, cap, by rw [hsl], by rw [hsl]; exact hl, fun hn => ?_⟩
   rw [hsl] at hn
   obtain ⟨b, off, ea, hb⟩ := plain_of_cell (hz 0 hn).1
   have e0 : a.add (0 * 2) = a := by cases a; unfold Addr.add; split <;> simp_all
   rw [e0] at ea
   subst ea
   refine ⟨b, off, rfl, hb, fun j u hu => ?_⟩
   have hj : j < len * 2 := by
    have := (List.getElem?_eq_some_iff.1 hu).1
    rw [cuCells_length, hsl] at this
    exact this
   have hi : j / 2 < len := by omega
   obtain ⟨g1, g2⟩ := cuCells_get ((List.range len).map z) (j / 2) (by rw [hsl]; exact hi)
   obtain ⟨k1, k2, -⟩ := hz (j / 2) hi
   have ead : ∀ q, (⟨b, off, none⟩ : Addr).add q = ⟨b, off + q, none⟩ := fun q => by unfold Addr.add; split <;> simp_all
   rw [ead] at k1 k2
   by_cases he : j % 2 = 0
   · have ej : j / 2 * 2 = j := by omega
     rw [ej] at g1 k1
     rw [g1] at hu
     rw [k1, ← hu]
     simp
   · have ej : j / 2 * 2 + 1 = j := by omega
     rw [ej] at g2 k2
     rw [g2] at hu
     rw [k2, ← hu]
     simp
set_option maxRecDepth 100000 in
theorem cuts_open {H : Type} {enc : TypeId × Value → H} {W : World} {base : Nat} {sp : Nat → Bool} {held : Bool} {v : Value} {d : DataW H} {p : List MemPlace} (hval : Value.okWide Tryd.prog W .any base 79 v) (h : DataW.Trod enc Tryd.prog W 0 sp held 79 v d p) :
 ∃ A c l, v = .slice A l.length c ∧ CutsAt W W.heap.size (.slice A l.length c) l ∧ ∀ x ∈ l, (0 ≤ x.1 ∧ x.1 < 4294967296) ∧ (0 ≤ x.2 ∧ x.2 < 4294967296) := by
 obtain ⟨a0, n0, c0, rfl⟩ := okWide_slice Tryd.underlying79 hval
 obtain ⟨fuel, hf⟩ := h
 obtain ⟨l, hl, hr⟩ := cuts_open0 (c := .slice a0 n0 c0) hf
 obtain ⟨A, c, e, -, -⟩ := hl.open_
 rw [e] at hl ⊢
 exact ⟨A, c, l, rfl, hl, hr⟩
set_option maxRecDepth 100000 in
theorem span_cells {H : Type} {enc : TypeId × Value → H} {W : World} {sp : Nat → Bool} {held : Bool} {fuel : Nat} {x0 x1 : Value} {y : DataW H × List MemPlace} (h : DataW.trod enc Tryd.prog W 0 sp held fuel 26 [x0, x1] = some y) : ∃ z0 z1, x0 = .int .i64 z0 ∧ x1 = .int .i64 z1 := by
 have c1 : Tryd.prog.cellsOf 3 = 1 := by kernel_rfl
 obtain ⟨y0, y1, n, _, hl, h0, h1⟩ := trod_struct2 Tryd.underlying26 h
 simp only [c1] at h0 h1
 obtain ⟨z0, e0, _⟩ := DataW.trod_int Tryd.underlying3 h0
 obtain ⟨z1, e1, _⟩ := DataW.trod_int Tryd.underlying3 h1
 injection e0 with e0
 injection e1 with e1
 exact ⟨z0, z1, e0, e1⟩
theorem five_of {α : Type} {l : List α} (h : l.length = 5) : ∃ a b c d e, l = [a, b, c, d, e] := by
 match l, h with
 | [a, b, c, d, e], _ => exact ⟨a, b, c, d, e, rfl⟩
set_option maxRecDepth 100000 in
theorem storm_open {H : Type} {enc : TypeId × Value → H} {W : World} {base : Nat} {sp : Nat → Bool} {held : Bool} {v : Value} {d : DataW H} {p : List MemPlace} (hval : Value.okWide Tryd.prog W .any base 70 v) (h : DataW.Trod enc Tryd.prog W 0 sp held 70 v d p) :
 ∃ x1 x2 y1 y2 r m1 m2 p1 p2, v = .agg #[.int .i64 x1, .int .i64 x2, .int .i64 y1, .int .i64 y2, .int .i64 r, .int .i64 m1, .int .i64 m2, .int .i64 p1, .int .i64 p2] := by
 unfold Value.okWide at hval
 rw [Tryd.underlying70] at hval
 obtain ⟨cs, rfl, hcs, -⟩ := hval
 obtain ⟨fuel, hf⟩ := h
 have c1 : Tryd.prog.cellsOf 3 = 1 := by kernel_rfl
 have c2 : Tryd.prog.cellsOf 26 = 2 := by kernel_rfl
 have c4 : Tryd.prog.cellsOf 70 = 9 := by kernel_rfl
 rw [c4] at hcs
 obtain ⟨l⟩ := cs
 match l, hcs with
 | [x0, x1, x2, x3, x4, x5, x6, x7, x8], _ =>
  obtain ⟨xs, n, _, _, hl, hxl, hall⟩ := DataW.trod_struct Tryd.underlying70 hf
  obtain ⟨y0, y1, y2, y3, y4, rfl⟩ := five_of (l := xs) hxl
  have h0 := hall 0 _ rfl
  have h1 := hall 1 _ rfl
  have h2 := hall 2 _ rfl
  have h3 := hall 3 _ rfl
  have h4 := hall 4 _ rfl
  simp only [c1, c2, List.getElem?_cons_zero, List.getElem?_cons_succ] at h0 h1 h2 h3 h4
  obtain ⟨z0, z1, rfl, rfl⟩ := span_cells (x0 := x0) (x1 := x1) h0
  obtain ⟨z2, z3, rfl, rfl⟩ := span_cells (x0 := x2) (x1 := x3) h1
  obtain ⟨z4, e4, _⟩ := DataW.trod_int Tryd.underlying3 h2
  obtain ⟨z5, z6, rfl, rfl⟩ := span_cells (x0 := x5) (x1 := x6) h3
  obtain ⟨z7, z8, rfl, rfl⟩ := span_cells (x0 := x7) (x1 := x8) h4
  injection e4 with e4
  subst e4
  exact ⟨_, _, _, _, _, _, _, _, _, rfl⟩
end Go.Proofs.YtdhcdgfpkjdihaaDoor.Sg
