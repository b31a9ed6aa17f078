/-
  A Land among a law's arguments reads as what it is.
-/
import Derived.Test.YthcenmocnphnmaaGreatDoorNG
set_option linter.unusedSimpArgs false
set_option linter.unusedVariables false
namespace Go.Proofs.YthcenmocnphnmaaGreatDoor
open Go.ChangeShapes Go.WideShapes Go.ChangeAt Go.WideMaps Go.WideElems Go.RowKit Go.Shelf Go.Deep

set_option maxRecDepth 100000 in
theorem nums_open1 {H : Type} {enc : TypeId × Value → H} {W : World} {sp : Nat → Bool} {held : Bool} {fuel : Nat} {v : Value} {x : DataW H × List MemPlace} {t e : TypeId} {k : IntKind} (ht : Tryz.prog.underlying t = some (.slice e)) (he : Tryz.prog.underlying e = some (.int k)) (hc1 : Tryz.prog.cellsOf e = 1)
    (hf : DataW.trod enc Tryz.prog W 0 sp held fuel t [v] = some x) : ∃ zs, NumsAt k W W.heap.size v zs ∧ ∀ z ∈ zs, (Lit.int k z).wf = true := by
  rcases open_slice1 ht hc1 hf with ⟨hc, _⟩ | ⟨a, n0, c0, m, n, V, D, Pl, hc, _, hl, hm, hmm, _, hall⟩
  · injection hc with hc
    subst hc
    exact ⟨[], Reads.nil _ _ _, by simp⟩
  · injection hc with hc
    subst hc
    have hlm : n0 ≤ m := by rw [hmm]; split <;> omega
    have hV : ∀ i, i < n0 → ∃ z : Int, W.cell? (a.add i) = some (.int k z) ∧ (Lit.int k z).wf = true := fun i hi => by
      obtain ⟨h1, h2⟩ := hall i (by omega)
      obtain ⟨z0, e0, _, hw⟩ := DataW.trod_int he h2
      injection e0 with e0
      exact ⟨z0, by rw [h1, e0], hw⟩
    obtain ⟨z, hz⟩ := choose_lt hV
    have hsl : ((List.range n0).map z).length = n0 := by simp
    refine ⟨(List.range n0).map z, ⟨by simp, by rw [hsl]; unfold maxLen at hm; omega, some a, c0, by rw [hsl], by rw [hsl]; exact hl, fun hn => ?_⟩, fun x hx => ?_⟩
    · rw [hsl] at hn
      obtain ⟨b, off, ea, hb⟩ := plain_of_cell (hz 0 hn).1
      rw [add_zero_] at ea
      subst ea
      refine ⟨b, off, rfl, hb, fun j u hu => ?_⟩
      have hj : j < n0 := by
        have := (List.getElem?_eq_some_iff.1 hu).1
        simpa using this
      have k1 := (hz j hj).1
      rw [add_plain_] at k1
      rw [k1, ← hu]
      simp [hj]
    · obtain ⟨i, hi, rfl⟩ := List.mem_map.1 hx
      exact (hz i (List.mem_range.1 hi)).2
theorem wf_u8 {z : Int} (h : (Lit.int .u8 z).wf = true) : 0 ≤ z ∧ z ≤ 255 := by
  have h : (decide (IntKind.min .u8 ≤ z) && decide (z ≤ IntKind.max .u8)) = true := h
  rw [Bool.and_eq_true] at h
  have a : (0 : Int) ≤ z := of_decide_eq_true h.1
  have b : z ≤ (255 : Int) := of_decide_eq_true h.2
  exact ⟨a, b⟩
theorem wf_i16 {z : Int} (h : (Lit.int .i16 z).wf = true) : -32768 ≤ z ∧ z ≤ 32767 := by
  have h : (decide (IntKind.min .i16 ≤ z) && decide (z ≤ IntKind.max .i16)) = true := h
  rw [Bool.and_eq_true] at h
  have a : (-32768 : Int) ≤ z := of_decide_eq_true h.1
  have b : z ≤ (32767 : Int) := of_decide_eq_true h.2
  exact ⟨a, b⟩
structure LandAt (W : World) (v : Value) (a b : Int) (x y : Value) (low more : List Int) : Prop where
  v : v = .agg #[.int .u8 a, .int .u8 b, x, y]
  wide : 0 ≤ a ∧ a ≤ 255
  high : 0 ≤ b ∧ b ≤ 255
  lowAt : NumsAt .i16 W W.heap.size x low
  moreAt : NumsAt .u8 W W.heap.size y more
  lows : ∀ z ∈ low, -32768 ≤ z ∧ z ≤ 32767
  mores : ∀ z ∈ more, 0 ≤ z ∧ z ≤ 255
set_option maxRecDepth 100000 in
theorem land_open {H : Type} {enc : TypeId × Value → H} {W : World} {base : Nat} {sp : Nat → Bool} {held : Bool} {v : Value} {d : DataW H} {p : List MemPlace} (hval : Value.okWide Tryz.prog W .any base 64 v) (h : DataW.Trod enc Tryz.prog W 0 sp held 64 v d p) : ∃ a b x y low more, LandAt W v a b x y low more := by
  unfold Value.okWide at hval
  rw [Tryz.underlying64] at hval
  obtain ⟨cs, rfl, hcs, -⟩ := hval
  obtain ⟨fuel, hf⟩ := h
  have c1 : Tryz.prog.cellsOf 5 = 1 := by kernel_rfl
  have c2 : Tryz.prog.cellsOf 61 = 1 := by kernel_rfl
  have c3 : Tryz.prog.cellsOf 62 = 1 := by kernel_rfl
  have c4 : Tryz.prog.cellsOf 64 = 4 := by kernel_rfl
  rw [c4] at hcs
  obtain ⟨l⟩ := cs
  match l, hcs with
  | [x0, x1, x2, x3], _ =>
    obtain ⟨xs, n, _, _, hl, hxl, hall⟩ := DataW.trod_struct Tryz.underlying64 hf
    obtain ⟨y0, y1, y2, y3, rfl⟩ := four_of (l := xs) hxl
    have h0 := hall 0 _ rfl
    have h1 := hall 1 _ rfl
    have h2 := hall 2 _ rfl
    have h3 := hall 3 _ rfl
    simp only [c1, c2, c3, List.getElem?_cons_zero, List.getElem?_cons_succ] at h0 h1 h2 h3
    obtain ⟨z0, e0, _, w0⟩ := DataW.trod_int Tryz.underlying5 h0
    obtain ⟨z1, e1, _, w1⟩ := DataW.trod_int Tryz.underlying5 h1
    obtain ⟨low, hs, hr⟩ := nums_open1 Tryz.underlying61 Tryz.underlying65 (by kernel_rfl) h2
    obtain ⟨more, hs', hr'⟩ := nums_open1 Tryz.underlying62 Tryz.underlying5 (by kernel_rfl) h3
    injection e0 with e0
    injection e1 with e1
    subst e0 e1
    exact ⟨z0, z1, _, _, low, more, rfl, wf_u8 w0, wf_u8 w1, hs, hs', fun z hz => wf_i16 (hr z hz), fun z hz => wf_u8 (hr' z hz)⟩
set_option maxRecDepth 100000 in
theorem i16s_open {H : Type} {enc : TypeId × Value → H} {W : World} {sp : Nat → Bool} {held : Bool} {base : Nat} {v : Value} {d : DataW H} {p : List MemPlace} (hval : Value.okWide Tryz.prog W .any base 61 v) (h : DataW.Trod enc Tryz.prog W 0 sp held 61 v d p) : ∃ zs, NumsAt .i16 W W.heap.size v zs ∧ ∀ z ∈ zs, -32768 ≤ z ∧ z ≤ 32767 := by
  obtain ⟨zs, h1, h2⟩ := nums_open Tryz.underlying61 Tryz.underlying65 (by kernel_rfl) hval h
  exact ⟨zs, h1, fun z hz => wf_i16 (h2 z hz)⟩
set_option maxRecDepth 100000 in
theorem u8s_open {H : Type} {enc : TypeId × Value → H} {W : World} {sp : Nat → Bool} {held : Bool} {base : Nat} {v : Value} {d : DataW H} {p : List MemPlace} (hval : Value.okWide Tryz.prog W .any base 62 v) (h : DataW.Trod enc Tryz.prog W 0 sp held 62 v d p) : ∃ zs, NumsAt .u8 W W.heap.size v zs ∧ ∀ z ∈ zs, 0 ≤ z ∧ z ≤ 255 := by
  obtain ⟨zs, h1, h2⟩ := nums_open Tryz.underlying62 Tryz.underlying5 (by kernel_rfl) hval h
  exact ⟨zs, h1, fun z hz => wf_u8 (h2 z hz)⟩
set_option maxRecDepth 100000 in
theorem i16_open {H : Type} {enc : TypeId × Value → H} {W : World} {sp : Nat → Bool} {held : Bool} {base : Nat} {v : Value} {d : DataW H} {p : List MemPlace} (hval : Value.okWide Tryz.prog W .any base 65 v) (h : DataW.Trod enc Tryz.prog W 0 sp held 65 v d p) : ∃ z, v = .int .i16 z ∧ -32768 ≤ z ∧ z ≤ 32767 := by
  obtain ⟨z, rfl, _, _, hw⟩ := open_int Tryz.underlying65 hval h
  exact ⟨z, rfl, wf_i16 hw⟩
set_option maxRecDepth 100000 in
theorem u8_open {H : Type} {enc : TypeId × Value → H} {W : World} {sp : Nat → Bool} {held : Bool} {base : Nat} {v : Value} {d : DataW H} {p : List MemPlace} (hval : Value.okWide Tryz.prog W .any base 5 v) (h : DataW.Trod enc Tryz.prog W 0 sp held 5 v d p) : ∃ z, v = .int .u8 z ∧ 0 ≤ z ∧ z ≤ 255 := by
  obtain ⟨z, rfl, _, _, hw⟩ := open_int Tryz.underlying5 hval h
  exact ⟨z, rfl, wf_u8 hw⟩
set_option maxRecDepth 100000 in
theorem u16_open {H : Type} {enc : TypeId × Value → H} {W : World} {sp : Nat → Bool} {held : Bool} {base : Nat} {v : Value} {d : DataW H} {p : List MemPlace} (hval : Value.okWide Tryz.prog W .any base 78 v) (h : DataW.Trod enc Tryz.prog W 0 sp held 78 v d p) : ∃ z, v = .int .u16 z ∧ 0 ≤ z ∧ z ≤ 65535 := by
  obtain ⟨z, rfl, _, _, hw⟩ := open_int Tryz.underlying78 hval h
  refine ⟨z, rfl, ?_⟩
  have h : (decide (IntKind.min .u16 ≤ z) && decide (z ≤ IntKind.max .u16)) = true := hw
  rw [Bool.and_eq_true] at h
  have a : (0 : Int) ≤ z := of_decide_eq_true h.1
  have b : z ≤ (65535 : Int) := of_decide_eq_true h.2
  exact ⟨a, b⟩
end Go.Proofs.YthcenmocnphnmaaGreatDoor
