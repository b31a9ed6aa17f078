/-
  Layer 3, the rows: places, winds and rows of winds among a law's arguments.
-/
import Derived.Test.YtdhcdgfpkjdihaaDoorVW3b
import Derived.Test.YtdhcdgfpkjdihaaDoorVA3h
set_option linter.unusedSimpArgs false
set_option linter.unusedVariables false
namespace Go.Proofs.YtdhcdgfpkjdihaaDoor.Sg
open Go.ChangeShapes Go.WideShapes Go.ChangeAt Go.WideMaps Go.WideElems Go.RowKit Go.Shelf Go.Deep
theorem three_of {α : Type} {l : List α} (h : l.length = 3) : ∃ a b c, l = [a, b, c] := by
 match l, h with
 | [a, b, c], _ => exact ⟨a, b, c, rfl⟩
set_option maxRecDepth 100000 in
theorem grid_cells {H : Type} {enc : TypeId × Value → H} {W : World} {sp : Nat → Bool} {held : Bool} {fuel : Nat} {x0 x1 x2 x3 : Value} {y : DataW H × List MemPlace} (hf : DataW.trod enc Tryd.prog W 0 sp held fuel 24 [x0, x1, x2, x3] = some y) :
 ∃ WW HH SS A c ss, x0 = .int .i64 WW ∧ x1 = .int .i64 HH ∧ x2 = .int .i64 SS ∧ x3 = .slice A ss.length c ∧ SpansAt W W.heap.size (.slice A ss.length c) ss := by
 have c1 : Tryd.prog.cellsOf 3 = 1 := by kernel_rfl
 have c2 : Tryd.prog.cellsOf 22 = 1 := by kernel_rfl
 obtain ⟨xs, n, _, _, hl, hxl, hall⟩ := DataW.trod_struct Tryd.underlying24 hf
 obtain ⟨y0, y1, y2, y3, rfl⟩ := four_of (l := xs) hxl
 have h0 := hall 0 _ rfl
 have h1 := hall 1 _ rfl
 have h2 := hall 2 _ rfl
 have h3 := hall 3 _ rfl
 simp only [c1, c2, List.getElem?_cons_zero, List.getElem?_cons_succ] at h0 h1 h2 h3
 obtain ⟨z0, e0, _⟩ := DataW.trod_int Tryd.underlying3 h0
 obtain ⟨z1, e1, _⟩ := DataW.trod_int Tryd.underlying3 h1
 obtain ⟨z2, e2, _⟩ := DataW.trod_int Tryd.underlying3 h2
 obtain ⟨ss, hs⟩ := spans_open h3
 injection e0 with e0
 injection e1 with e1
 injection e2 with e2
 obtain ⟨A, c, e3, -, -⟩ := hs.open_
 exact ⟨z0, z1, z2, A, c, ss, e0, e1, e2, e3, by rw [← e3]; exact hs⟩
set_option maxRecDepth 100000 in
theorem model_cells {H : Type} {enc : TypeId × Value → H} {W : World} {sp : Nat → Bool} {held : Bool} {fuel : Nat} {x0 x1 x2 x3 : Value} {y : DataW H × List MemPlace} (hf : DataW.trod enc Tryd.prog W 0 sp held fuel 28 [x0, x1, x2, x3] = some y) :
 ∃ a b c d, x0 = .int .i64 a ∧ x1 = .int .i64 b ∧ x2 = .int .i64 c ∧ x3 = .int .i64 d := by
 have c2 : Tryd.prog.cellsOf 26 = 2 := by kernel_rfl
 obtain ⟨y0, y1, n, _, hl, h0, h1⟩ := trod_struct2 Tryd.underlying28 hf
 simp only [c2] at h0 h1
 obtain ⟨z0, z1, e0, e1⟩ := span_cells (x0 := x0) (x1 := x1) h0
 obtain ⟨z2, z3, e2, e3⟩ := span_cells (x0 := x2) (x1 := x3) h1
 exact ⟨z0, z1, z2, z3, e0, e1, e2, e3⟩
set_option maxRecDepth 100000 in
theorem place_open {H : Type} {enc : TypeId × Value → H} {W : World} {base : Nat} {sp : Nat → Bool} {held : Bool} {v : Value} {d : DataW H} {p : List MemPlace} (hval : Value.okWide Tryd.prog W .any base 30 v) (h : DataW.Trod enc Tryd.prog W 0 sp held 30 v d p) :
 ∃ WW HH SS A c ss sa sb d1 d2 l1 l2 cell dir, v = .agg #[.int .i64 WW, .int .i64 HH, .int .i64 SS, .slice A ss.length c, .int .i64 sa, .int .i64 sb, .int .i64 d1, .int .i64 d2, .int .i64 l1, .int .i64 l2, .int .i64 cell, .int .i64 dir] ∧ SpansAt W W.heap.size (.slice A ss.length c) ss := by
 unfold Value.okWide at hval
 rw [Tryd.underlying30] at hval
 obtain ⟨cs, rfl, hcs, -⟩ := hval
 obtain ⟨fuel, hf⟩ := h
 have c1 : Tryd.prog.cellsOf 3 = 1 := by kernel_rfl
 have c2 : Tryd.prog.cellsOf 26 = 2 := by kernel_rfl
 have c3 : Tryd.prog.cellsOf 24 = 4 := by kernel_rfl
 have c4 : Tryd.prog.cellsOf 28 = 4 := by kernel_rfl
 have c5 : Tryd.prog.cellsOf 30 = 12 := by kernel_rfl
 rw [c5] at hcs
 obtain ⟨l⟩ := cs
 match l, hcs with
 | [x0, x1, x2, x3, x4, x5, x6, x7, x8, x9, x10, x11], _ =>
  obtain ⟨xs, n, _, _, hl, hxl, hall⟩ := DataW.trod_struct Tryd.underlying30 hf
  obtain ⟨y0, y1, y2, y3, y4, rfl⟩ := five_of (l := xs) hxl
  have h0 := hall 0 _ rfl
  have h1 := hall 1 _ rfl
  have h2 := hall 2 _ rfl
  have h3 := hall 3 _ rfl
  have h4 := hall 4 _ rfl
  simp only [c1, c2, c3, c4, List.getElem?_cons_zero, List.getElem?_cons_succ] at h0 h1 h2 h3 h4
  obtain ⟨WW, HH, SS, A, c, ss, rfl, rfl, rfl, rfl, hs⟩ := grid_cells (x0 := x0) (x1 := x1) (x2 := x2) (x3 := x3) h0
  obtain ⟨sa, sb, rfl, rfl⟩ := span_cells (x0 := x4) (x1 := x5) h1
  obtain ⟨d1, d2, l1, l2, rfl, rfl, rfl, rfl⟩ := model_cells (x0 := x6) (x1 := x7) (x2 := x8) (x3 := x9) h2
  obtain ⟨z3, e3, _⟩ := DataW.trod_int Tryd.underlying3 h3
  obtain ⟨z4, e4, _⟩ := DataW.trod_int Tryd.underlying3 h4
  injection e3 with e3
  injection e4 with e4
  subst e3 e4
  exact ⟨WW, HH, SS, A, c, ss, sa, sb, d1, d2, l1, l2, _, _, rfl, hs⟩
set_option maxRecDepth 100000 in
theorem wind_cells {H : Type} {enc : TypeId × Value → H} {W : World} {sp : Nat → Bool} {held : Bool} {fuel : Nat} {x0 x1 x2 x3 x4 : Value} {y : DataW H × List MemPlace} (hf : DataW.trod enc Tryd.prog W 0 sp held fuel 32 [x0, x1, x2, x3, x4] = some y) :
 ∃ z : Wi, x0 = .int .i64 z.s.1 ∧ x1 = .int .i64 z.s.2 ∧ x2 = .int .i64 z.n ∧ x3 = .int .i64 z.p.1 ∧ x4 = .int .i64 z.p.2 := by
 have c1 : Tryd.prog.cellsOf 3 = 1 := by kernel_rfl
 have c2 : Tryd.prog.cellsOf 26 = 2 := by kernel_rfl
 obtain ⟨xs, n, _, _, hl, hxl, hall⟩ := DataW.trod_struct Tryd.underlying32 hf
 obtain ⟨y0, y1, y2, rfl⟩ := three_of (l := xs) hxl
 have h0 := hall 0 _ rfl
 have h1 := hall 1 _ rfl
 have h2 := hall 2 _ rfl
 simp only [c1, c2, List.getElem?_cons_zero, List.getElem?_cons_succ] at h0 h1 h2
 obtain ⟨a, b, e0, e1⟩ := span_cells (x0 := x0) (x1 := x1) h0
 obtain ⟨n', e2, _⟩ := DataW.trod_int Tryd.underlying3 h1
 obtain ⟨p, q, e3, e4⟩ := span_cells (x0 := x3) (x1 := x4) h2
 injection e2 with e2
 exact ⟨⟨(a, b), n', (p, q)⟩, e0, e1, e2, e3, e4⟩
set_option maxRecDepth 100000 in
theorem wind_open {H : Type} {enc : TypeId × Value → H} {W : World} {base : Nat} {sp : Nat → Bool} {held : Bool} {v : Value} {d : DataW H} {p : List MemPlace} (hval : Value.okWide Tryd.prog W .any base 32 v) (h : DataW.Trod enc Tryd.prog W 0 sp held 32 v d p) :
 ∃ s1 s2 n p1 p2, v = .agg #[.int .i64 s1, .int .i64 s2, .int .i64 n, .int .i64 p1, .int .i64 p2] := by
 unfold Value.okWide at hval
 rw [Tryd.underlying32] at hval
 obtain ⟨cs, rfl, hcs, -⟩ := hval
 obtain ⟨fuel, hf⟩ := h
 have c5 : Tryd.prog.cellsOf 32 = 5 := by kernel_rfl
 rw [c5] at hcs
 obtain ⟨l⟩ := cs
 match l, hcs with
 | [x0, x1, x2, x3, x4], _ =>
  obtain ⟨z, rfl, rfl, rfl, rfl, rfl⟩ := wind_cells hf
  exact ⟨_, _, _, _, _, rfl⟩
theorem wf_i64 {z : Int} (h : (Lit.int .i64 z).wf = true) : -9223372036854775808 ≤ z ∧ z ≤ 9223372036854775807 := by
 have h1 : (-9223372036854775808 : Int) ≤ z ∧ z ≤ 9223372036854775807 := wf_of h
 exact h1
set_option maxRecDepth 100000 in
theorem span_openB {H : Type} {enc : TypeId × Value → H} {W : World} {base : Nat} {sp : Nat → Bool} {held : Bool} {v : Value} {d : DataW H} {p : List MemPlace} (hval : Value.okWide Tryd.prog W .any base 26 v) (h : DataW.Trod enc Tryd.prog W 0 sp held 26 v d p) :
 ∃ lo hi, v = .agg #[.int .i64 lo, .int .i64 hi] ∧ (-9223372036854775808 ≤ lo ∧ lo ≤ 9223372036854775807) ∧ (-9223372036854775808 ≤ hi ∧ hi ≤ 9223372036854775807) := by
 unfold Value.okWide at hval
 rw [Tryd.underlying26] at hval
 obtain ⟨cs, rfl, hcs, -⟩ := hval
 obtain ⟨fuel, hf⟩ := h
 have c1 : Tryd.prog.cellsOf 3 = 1 := by kernel_rfl
 have c4 : Tryd.prog.cellsOf 26 = 2 := by kernel_rfl
 rw [c4] at hcs
 obtain ⟨l⟩ := cs
 match l, hcs with
 | [x0, x1], _ =>
  obtain ⟨y0, y1, n, _, hl, h0, h1⟩ := trod_struct2 Tryd.underlying26 hf
  simp only [c1] at h0 h1
  obtain ⟨z0, e0, _, w0⟩ := DataW.trod_int Tryd.underlying3 h0
  obtain ⟨z1, e1, _, w1⟩ := DataW.trod_int Tryd.underlying3 h1
  injection e0 with e0
  injection e1 with e1
  subst e0 e1
  exact ⟨z0, z1, rfl, wf_i64 w0, wf_i64 w1⟩
instance : Inhabited Wi := ⟨⟨(0, 0), 0, (0, 0)⟩⟩
theorem add_plain3 (b off q : Nat) : (⟨b, off, none⟩ : Addr).add q = ⟨b, off + q, none⟩ := by unfold Addr.add; split <;> simp_all
theorem add_zero3 (a : Addr) : a.add 0 = a := by cases a; unfold Addr.add; split <;> simp_all
theorem add_add3 (a : Addr) (p q : Nat) : (a.add p).add q = a.add (p + q) := by
 unfold Addr.add
 by_cases h1 : p = 0
 all_goals by_cases h2 : q = 0
 all_goals simp [h1, h2, Nat.add_assoc]
set_option maxRecDepth 100000 in
theorem winds_cells {H : Type} {enc : TypeId × Value → H} {W : World} {sp : Nat → Bool} {held : Bool} {fuel : Nat} {x1 : Value} {y : DataW H × List MemPlace} (hf : DataW.trod enc Tryd.prog W 0 sp held fuel 52 [x1] = some y) : ∃ l, WindsAt W W.heap.size x1 l := by
 have ce : Tryd.prog.cellsOf 32 = 5 := by kernel_rfl
 rcases open_slice Tryd.underlying52 hf with ⟨hc, _⟩ | ⟨a, n0, c0, m, n, D, Pl, hc, _, hl, hm, hmm, _, hall⟩
 · injection hc with hc _
   subst hc
   exact ⟨[], Reads.nil _ _ _⟩
 · injection hc with hc _
   subst hc
   have hlm : n0 ≤ m := by rw [hmm]; split <;> omega
   have hV : ∀ i, i < n0 → ∃ z : Wi, W.cell? (a.add (i * 5)) = some (.int .i64 z.s.1) ∧ W.cell? (a.add (i * 5 + 1)) = some (.int .i64 z.s.2) ∧ W.cell? (a.add (i * 5 + 2)) = some (.int .i64 z.n) ∧ W.cell? (a.add (i * 5 + 3)) = some (.int .i64 z.p.1) ∧ W.cell? (a.add (i * 5 + 4)) = some (.int .i64 z.p.2) := fun i hi => by
    obtain ⟨cs', h1, h2⟩ := hall i (by omega)
    rw [ce] at h1
    obtain ⟨_, hlen, hcell⟩ := World.cells?_some h1
    match cs', hlen with
    | [x0, x1, x2, x3, x4], _ =>
     obtain ⟨z, rfl, rfl, rfl, rfl, rfl⟩ := wind_cells h2
     have k0 := hcell 0 (by omega)
     have k1 := hcell 1 (by omega)
     have k2 := hcell 2 (by omega)
     have k3 := hcell 3 (by omega)
     have k4 := hcell 4 (by omega)
     rw [add_add3] at k0 k1 k2 k3 k4
     exact ⟨z, by simpa using k0, by simpa using k1, by simpa using k2, by simpa using k3, by simpa using k4⟩
   obtain ⟨z, hz⟩ := choose_lt hV
   have hsl : ((List.range n0).map z).length = n0 := by simp
   refine ⟨(List.range n0).map z, ⟨wiCells_length _, by rw [hsl]; unfold maxLen at hm; omega, some a, c0, by rw [hsl], by rw [hsl]; exact hl, fun hn => ?_⟩⟩
   rw [hsl] at hn
   obtain ⟨b, off, ea, hb⟩ := plain_of_cell (hz 0 hn).1
   rw [Nat.zero_mul, add_zero3] at ea
   subst ea
   refine ⟨b, off, rfl, hb, fun j u hu => ?_⟩
   have hj : j < n0 * 5 := by
    have := (List.getElem?_eq_some_iff.1 hu).1
    rw [wiCells_length, hsl] at this
    exact this
   have hi : j / 5 < n0 := by omega
   obtain ⟨g1, g2, g3, g4, g5⟩ := wiCells_get ((List.range n0).map z) (j / 5) (by rw [hsl]; exact hi)
   obtain ⟨k1, k2, k3, k4, k5⟩ := hz (j / 5) hi
   rw [add_plain3] at k1 k2 k3 k4 k5
   have hr : j % 5 = 0 ∨ j % 5 = 1 ∨ j % 5 = 2 ∨ j % 5 = 3 ∨ j % 5 = 4 := by omega
   rcases hr with he | he | he | he | he
   · have ej : j / 5 * 5 = j := by omega
     rw [ej] at g1 k1
     rw [g1] at hu
     rw [k1, ← hu]
     simp
   · have ej : j / 5 * 5 + 1 = j := by omega
     rw [ej] at g2 k2
     rw [g2] at hu
     rw [k2, ← hu]
     simp
   · have ej : j / 5 * 5 + 2 = j := by omega
     rw [ej] at g3 k3
     rw [g3] at hu
     rw [k3, ← hu]
     simp
   · have ej : j / 5 * 5 + 3 = j := by omega
     rw [ej] at g4 k4
     rw [g4] at hu
     rw [k4, ← hu]
     simp
   · have ej : j / 5 * 5 + 4 = j := by omega
     rw [ej] at g5 k5
     rw [g5] at hu
     rw [k5, ← hu]
     simp
set_option maxRecDepth 100000 in
theorem winds_open {H : Type} {enc : TypeId × Value → H} {W : World} {base : Nat} {sp : Nat → Bool} {held : Bool} {v : Value} {d : DataW H} {p : List MemPlace} (hval : Value.okWide Tryd.prog W .any base 52 v) (h : DataW.Trod enc Tryd.prog W 0 sp held 52 v d p) :
 ∃ A c l, v = .slice A l.length c ∧ WindsAt W W.heap.size (.slice A l.length c) l := by
 obtain ⟨a0, n0, c0, rfl⟩ := okWide_slice Tryd.underlying52 hval
 obtain ⟨fuel, hf⟩ := h
 obtain ⟨l, hl⟩ := winds_cells (x1 := .slice a0 n0 c0) hf
 obtain ⟨A, c, e, -, -⟩ := hl.open_
 rw [e] at hl ⊢
 exact ⟨A, c, l, rfl, hl⟩
end Go.Proofs.YtdhcdgfpkjdihaaDoor.Sg
