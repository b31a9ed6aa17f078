/-
  GridFewer returns true.
-/
import Derived.Test.YthcenmocnphnmaaGreatDoorNH
import Derived.Test.YthcenmocnphnmaaGreatDoorND
set_option linter.unusedSimpArgs false
set_option linter.unusedVariables false
namespace Go.Proofs.YthcenmocnphnmaaGreatDoor
open Go.RowKit Go.Shelf

theorem made_same {W H : Int} (low more low' more' : List Int) : (madeG W H low more).W = (madeG W H low' more').W ∧ (madeG W H low more).H = (madeG W H low' more').H ∧ (madeG W H low more).S = (madeG W H low' more').S := ⟨rfl, rfl, rfl⟩
theorem grid_spans {w : World} {B : Nat} {a b c v : Value} {g : G} (h : GridAt w B (.agg #[a, b, c, v]) g) : SpansAt w B v g.ss := by
  obtain ⟨u, e, h⟩ := h
  injection e with e
  injection e with e
  injection e with _ e
  injection e with _ e
  injection e with _ e
  injection e with e _
  rw [e]
  exact h
theorem tmod_rng (a : Int) : -14999 ≤ a.tmod 15000 ∧ a.tmod 15000 ≤ 14999 := by
  rcases Int.le_total 0 a with h | h
  · rw [Int.tmod_eq_emod_of_nonneg h]; omega
  · have e : a = -(-a) := by omega
    rw [e, Int.neg_tmod, Int.tmod_eq_emod_of_nonneg (by omega)]; omega
theorem ponds_k {w9 : World} {x y : Value} {g : G} {l : List Int} {sts : List Nat} (hg : GridAt w9 w9.heap.size x g) (hy : IntsAt w9 w9.heap.size y l) (h0 : seaE g l = 0) (hs : l.map Int.toNat = sts) (W : World) (hW : Below w9.heap.size w9 W) :
    Calls Tryz.prog 26 #[x, y] W fun e w' => ∃ v ps, e = .returned (.tuple #[v, .int .i64 0]) ∧ Hid (SpansAt w' w'.heap.size v ps) ∧ Hid (PondZ g sts ps) ∧ Hid (Below w9.heap.size w9 w') ∧ Hid (Below W.heap.size W w') := by
  refine (Ponds_any x y g l W (hg.later hW (Nat.le_refl _)) (hy.later hW (Nat.le_refl _))).mono ?_
  rintro e w' ⟨v, ps, rfl, h1, h2, h3⟩
  exact ⟨v, ps, by rw [h0], h1, pond_case h0 hs h3, hW.trans (h2.mono hW.size), h2⟩
def TwoPonds (g n : G) (sts : List Nat) (w9 : World) (p q : Value) (wx : World) : Prop := ∃ ps qs, SpansAt wx wx.heap.size p ps ∧ SpansAt wx wx.heap.size q qs ∧ PondZ g sts ps ∧ PondZ n sts qs ∧ Below w9.heap.size w9 wx
theorem lwithin_yes {a b c d : Int} (h : withinB (a, b) (c, d) = true) (w : World) :
    Calls Tryz.prog 43 #[.agg #[.int .i64 a, .int .i64 b], .agg #[.int .i64 c, .int .i64 d]] w fun e w' => e = .returned (.bool true) ∧ Below w.heap.size w w' := by
  have := lwithin_any a b c d w
  rw [h] at this
  exact this
theorem lwithin_k {a b c d : Int} (h : withinB (a, b) (c, d) = true) (w0 : World) (W : World) (hW : Below w0.heap.size w0 W) :
    Calls Tryz.prog 43 #[.agg #[.int .i64 a, .int .i64 b], .agg #[.int .i64 c, .int .i64 d]] W fun e w' => e = .returned (.bool true) ∧ Hid (Below w0.heap.size w0 w') :=
  (lwithin_yes h W).mono fun e w' h => ⟨h.1, hW.trans (h.2.mono hW.size)⟩
set_option maxRecDepth 100000 in
set_option maxHeartbeats 8000000 in
theorem GridFewer_any (W H lev : Int) (x y x' y' z : Value) (low more low' more' sea : List Int) (w : World) (hW : 0 ≤ W ∧ W ≤ 255) (hH : 0 ≤ H ∧ H ≤ 255) (hlev : -32768 ≤ lev ∧ lev ≤ 32767)
    (hx : NumsAt .i16 w w.heap.size x low) (hy : NumsAt .u8 w w.heap.size y more) (hx' : NumsAt .i16 w w.heap.size x' low') (hy' : NumsAt .u8 w w.heap.size y' more') (hz : NumsAt .u8 w w.heap.size z sea)
    (hxr : ∀ z ∈ low, -32768 ≤ z ∧ z ≤ 32767) (hyr : ∀ z ∈ more, 0 ≤ z ∧ z ≤ 255) (hxr' : ∀ z ∈ low', -32768 ≤ z ∧ z ≤ 32767) (hyr' : ∀ z ∈ more', 0 ≤ z ∧ z ≤ 255) (hzr : ∀ z ∈ sea, 0 ≤ z ∧ z ≤ 255) (hv : LV w) :
    Calls Tryz.prog 9 #[.agg #[.int .u8 W, .int .u8 H, x, y], x', y', z, .int .i16 lev] w fun e w' => e = .returned (.bool true) ∧ Below w.heap.size w w' := by
  have HX := Lib.hid hx
  have HY := Lib.hid hy
  have HX' := Lib.hid hx'
  have HY' := Lib.hid hy'
  have HZ := Lib.hid hz
  have HXR := Lib.hid (And.intro hxr (And.intro hyr (And.intro hxr' (And.intro hyr' hzr))))
  have HLV := Lib.hid hv
  have HWH := Lib.hid (And.intro hW hH)
  obtain ⟨A1, k1, rfl, hk1, hm1⟩ := hx.open_
  obtain ⟨A2, k2, rfl, hk2, hm2⟩ := hy.open_
  obtain ⟨A3, k3, rfl, hk3, hm3⟩ := hx'.open_
  obtain ⟨A4, k4, rfl, hk4, hm4⟩ := hy'.open_
  obtain ⟨A5, k5, rfl, hk5, hm5⟩ := hz.open_
  have HM1 := Lib.hid (made_ok hW.1 hH.1 hxr hyr)
  have HM2 := Lib.hid (made_ok hW.1 hH.1 hxr' hyr')
  have HL1 := Lib.hid (made_len25 hW.1 hH.1 low more)
  clear hx hy hx' hy' hz hxr hyr hxr' hyr' hzr hv
  obtain ⟨W1, hW1⟩ : ∃ W1, w.alloc (.cells #[.int .u8 W, .int .u8 H, .slice A1 low.length k1, .slice A2 more.length k2] 64) = W1 := ⟨_, rfl⟩
  have HB0 : Hid (Below w.heap.size w W1) := by rw [← hW1]; exact (by repeat (first | exact Below.refl _ _ | assumption | refine Below.drew ?_ | refine Below.drewN' ?_ _ | (refine Below.alloc ?_ (by simp <;> omega) _) | (refine Below.setCell ?_ (by simp <;> omega) _)))
  have HK0 : Hid (Blk W1 w.heap.size 64 #[.int .u8 W, .int .u8 H, .slice A1 low.length k1, .slice A2 more.length k2]) := by rw [← hW1]; exact Blk.new' _ _ _ rfl
  have HW1 := Lib.hid hW1
  clear hW1
  go_enter Tryz.func9, Tryz.ntmps9
  go_upto_region 1 with (fail)
  rw [HW1.out]
  by_cases hbig : 10 < sea.length
  · have hb : (10 : Int) < (sea.length : Int) := by omega
    go_wp2_with fail
    refine (works_any _ (HLV.out.below HB0.out)).mono ?_
    rintro e w2 ⟨rfl, hb2⟩
    have HB2 := Lib.hid (HB0.out.trans (hb2.mono HB0.out.size))
    clear hb2
    go_wp2
    go_ret
    exact ⟨rfl, HB2.out⟩
  have hb : ¬ (10 : Int) < (sea.length : Int) := by omega
  have HS10 : Hid (sea.length ≤ 10) := by rw [Hid]; omega
  clear hbig
  have d0 : W1.cell? ⟨w.heap.size, 0, none⟩ = some (.int .u8 W) := HK0.out.cell 0
  have d1 : W1.cell? ⟨w.heap.size, 1, none⟩ = some (.int .u8 H) := HK0.out.cell 1
  have d2 : W1.cell? ⟨w.heap.size, 2, none⟩ = some (.slice A1 low.length k1) := HK0.out.cell 2
  have d3 : W1.cell? ⟨w.heap.size, 3, none⟩ = some (.slice A2 more.length k2) := HK0.out.cell 3
  go_wp2_with fail
  refine (made_any W H _ _ low more _ hW hH (HX.out.later HB0.out (Nat.le_refl _)) (HY.out.later HB0.out (Nat.le_refl _)) HXR.out.1 HXR.out.2.1).mono ?_
  rintro e w2 ⟨x2, rfl, hg2, hb2, -⟩
  have HG2 := Lib.hid hg2
  obtain ⟨g, hg⟩ : ∃ g, madeG W H low more = g := ⟨_, rfl⟩
  rw [hg] at HG2 HM1 HL1 hg2
  have HGm := Lib.hid hg
  clear hg
  obtain ⟨v2, rfl, hs2⟩ := hg2
  obtain ⟨B2, c2, rfl, _, _⟩ := hs2.open_
  have HB2 := Lib.hid (HB0.out.trans (hb2.mono HB0.out.size))
  have HK2 := Lib.hid (HK0.out.below hb2 HK0.out.lt)
  clear hb2 hs2 d0 d1 d2 d3
  go_upto_region 4 with (fail)
  obtain ⟨V2, hV2⟩ : ∃ V, w2.alloc (.cells #[.int .i64 g.W, .int .i64 g.H, .int .i64 g.S, .slice B2 g.ss.length c2] 24) = V := ⟨_, rfl⟩
  have HVB2 : Hid (Below w2.heap.size w2 V2) := by rw [← hV2]; exact (by repeat (first | exact Below.refl _ _ | assumption | refine Below.drew ?_ | refine Below.drewN' ?_ _ | (refine Below.alloc ?_ (by simp <;> omega) _) | (refine Below.setCell ?_ (by simp <;> omega) _)))
  have HVK2 : Hid (Blk V2 w2.heap.size 24 #[.int .i64 g.W, .int .i64 g.H, .int .i64 g.S, .slice B2 g.ss.length c2]) := by rw [← hV2]; exact Blk.new' _ _ _ rfl
  rw [hV2]
  clear hV2
  have HBV2 := Lib.hid (HB2.out.trans (HVB2.out.mono HB2.out.size))
  have HG2' := Lib.hid (HG2.out.later HVB2.out (Nat.le_refl _))
  have d0 : V2.cell? ⟨w.heap.size, 0, none⟩ = some (.int .u8 W) := (HK2.out.below HVB2.out HK2.out.lt).cell 0
  have d1 : V2.cell? ⟨w.heap.size, 1, none⟩ = some (.int .u8 H) := (HK2.out.below HVB2.out HK2.out.lt).cell 1
  go_wp2_with fail
  refine (made_any W H _ _ low' more' _ hW hH (HX'.out.later HBV2.out (Nat.le_refl _)) (HY'.out.later HBV2.out (Nat.le_refl _)) HXR.out.2.2.1 HXR.out.2.2.2.1).mono ?_
  rintro e w3 ⟨x3, rfl, hg3, hb3, -⟩
  have HG3 := Lib.hid hg3
  obtain ⟨h, hh⟩ : ∃ h, madeG W H low' more' = h := ⟨_, rfl⟩
  rw [hh] at HG3 HM2 hg3
  have HHm := Lib.hid hh
  clear hh
  obtain ⟨v3, rfl, hs3⟩ := hg3
  obtain ⟨B3, c3, rfl, _, _⟩ := hs3.open_
  have HB3 := Lib.hid (HBV2.out.trans (hb3.mono HBV2.out.size))
  have HK3 := Lib.hid (HVK2.out.below hb3 HVK2.out.lt)
  have HG23 := Lib.hid (HG2'.out.later hb3 (Nat.le_refl _))
  clear hb3 hs3 d0 d1
  go_upto_region 5 with (fail)
  obtain ⟨V3, hV3⟩ : ∃ V, w3.alloc (.cells #[.int .i64 h.W, .int .i64 h.H, .int .i64 h.S, .slice B3 h.ss.length c3] 24) = V := ⟨_, rfl⟩
  have HVB3 : Hid (Below w3.heap.size w3 V3) := by rw [← hV3]; exact (by repeat (first | exact Below.refl _ _ | assumption | refine Below.drew ?_ | refine Below.drewN' ?_ _ | (refine Below.alloc ?_ (by simp <;> omega) _) | (refine Below.setCell ?_ (by simp <;> omega) _)))
  have HVK3 : Hid (Blk V3 w3.heap.size 24 #[.int .i64 h.W, .int .i64 h.H, .int .i64 h.S, .slice B3 h.ss.length c3]) := by rw [← hV3]; exact Blk.new' _ _ _ rfl
  rw [hV3]
  clear hV3
  have HBV3 := Lib.hid (HB3.out.trans (HVB3.out.mono HB3.out.size))
  have HKV3 := Lib.hid (HK3.out.below HVB3.out HK3.out.lt)
  have HGg := Lib.hid (HG23.out.later HVB3.out (Nat.le_refl _))
  have HGh := Lib.hid (HG3.out.later HVB3.out (Nat.le_refl _))
  have hlt23 : w2.heap.size < w3.heap.size := HK3.out.lt
  clear HK2 HK3 HG2 HG2' HG23 HG3 HVB2 HVK2 HVB3
  have hN : narrowR h g = narrowR g h := by
    rw [← HGm.out] at HM1 ⊢
    rw [← HHm.out] at HM2 ⊢
    exact narrowR_comm HM2.out HM1.out rfl rfl rfl
  have HN := Lib.hid hN
  clear hN
  obtain ⟨p0, p1, p2, p3⟩ := grid_parts HKV3.out
  obtain ⟨q0, q1, q2, q3⟩ := grid_parts HVK3.out
  go_wp2_with fail
  refine (Narrow_any _ _ g h _ HGg.out HGh.out).mono ?_
  rintro e w4 ⟨x4, rfl, hg4, hb4⟩
  have HNc := Lib.hid (show _ from narrow_cases (a := g) (b := h) HM1.out HM2.out (by rw [← HGm.out, ← HHm.out]; rfl) (by rw [← HGm.out, ← HHm.out]; rfl) (by rw [← HGm.out, ← HHm.out]; rfl))
  obtain ⟨r, hr⟩ : ∃ r, narrowR g h = r := ⟨_, rfl⟩
  rw [hr] at hg4 HNc HN
  rw [hr]
  have HR := Lib.hid hr
  clear hr
  have HG4 := Lib.hid hg4
  obtain ⟨v4, rfl, hs4⟩ := hg4
  obtain ⟨B4, c4, rfl, _, _⟩ := hs4.open_
  have HB4 := Lib.hid (HBV3.out.trans (hb4.mono HBV3.out.size))
  have HKg4 := Lib.hid (HKV3.out.below hb4 HKV3.out.lt)
  have HKh4 := Lib.hid (HVK3.out.below hb4 HVK3.out.lt)
  have HGg4 := Lib.hid (HGg.out.later hb4 (Nat.le_refl _))
  have HGh4 := Lib.hid (HGh.out.later hb4 (Nat.le_refl _))
  clear hb4 hs4 p0 p1 p2 p3 q0 q1 q2 q3
  go_upto_region 6 with (fail)
  obtain ⟨V4, hV4⟩ : ∃ V, w4.alloc (.cells #[.int .i64 r.2.2.W, .int .i64 r.2.2.H, .int .i64 r.2.2.S, .slice B4 r.2.2.ss.length c4] 24) = V := ⟨_, rfl⟩
  have HVB4 : Hid (Below w4.heap.size w4 V4) := by rw [← hV4]; exact (by repeat (first | exact Below.refl _ _ | assumption | refine Below.drew ?_ | refine Below.drewN' ?_ _ | (refine Below.alloc ?_ (by simp <;> omega) _) | (refine Below.setCell ?_ (by simp <;> omega) _)))
  have HVK4 : Hid (Blk V4 w4.heap.size 24 #[.int .i64 r.2.2.W, .int .i64 r.2.2.H, .int .i64 r.2.2.S, .slice B4 r.2.2.ss.length c4]) := by rw [← hV4]; exact Blk.new' _ _ _ rfl
  rw [hV4]
  clear hV4
  have HBV4 := Lib.hid (HB4.out.trans (HVB4.out.mono HB4.out.size))
  have HKgV4 := Lib.hid (HKg4.out.below HVB4.out HKg4.out.lt)
  have HKhV4 := Lib.hid (HKh4.out.below HVB4.out HKh4.out.lt)
  have HGgV4 := Lib.hid (HGg4.out.later HVB4.out (Nat.le_refl _))
  have HGhV4 := Lib.hid (HGh4.out.later HVB4.out (Nat.le_refl _))
  have HGnV4 := Lib.hid (HG4.out.later HVB4.out (Nat.le_refl _))
  have hlt34 : w3.heap.size < w4.heap.size := HKh4.out.lt
  clear HKg4 HKh4 HGg4 HGh4 HG4 HKV3 HVK3 HGg HGh
  obtain ⟨p0, p1, p2, p3⟩ := grid_parts HKgV4.out
  obtain ⟨q0, q1, q2, q3⟩ := grid_parts HKhV4.out
  go_wp2_with fail
  refine (Narrow_any _ _ h g _ HGhV4.out HGgV4.out).mono ?_
  rintro e w5 ⟨x5, rfl, hg5, hb5⟩
  rw [HN.out] at hg5
  rw [HN.out]
  have HG5 := Lib.hid hg5
  obtain ⟨v5, rfl, hs5⟩ := hg5
  obtain ⟨B5, c5, rfl, _, _⟩ := hs5.open_
  have HB5 := Lib.hid (HBV4.out.trans (hb5.mono HBV4.out.size))
  have HKg5 := Lib.hid (HKgV4.out.below hb5 HKgV4.out.lt)
  have HKh5 := Lib.hid (HKhV4.out.below hb5 HKhV4.out.lt)
  have HKn5 := Lib.hid (HVK4.out.below hb5 HVK4.out.lt)
  have HGg5 := Lib.hid (HGgV4.out.later hb5 (Nat.le_refl _))
  have HGh5 := Lib.hid (HGhV4.out.later hb5 (Nat.le_refl _))
  have HGn5 := Lib.hid (HGnV4.out.later hb5 (Nat.le_refl _))
  clear hb5 hs5 p0 p1 p2 p3 q0 q1 q2 q3
  go_upto_region 7 with (fail)
  obtain ⟨V5, hV5⟩ : ∃ V, w5.alloc (.cells #[.int .i64 r.2.2.W, .int .i64 r.2.2.H, .int .i64 r.2.2.S, .slice B5 r.2.2.ss.length c5] 24) = V := ⟨_, rfl⟩
  have HVB5 : Hid (Below w5.heap.size w5 V5) := by rw [← hV5]; exact (by repeat (first | exact Below.refl _ _ | assumption | refine Below.drew ?_ | refine Below.drewN' ?_ _ | (refine Below.alloc ?_ (by simp <;> omega) _) | (refine Below.setCell ?_ (by simp <;> omega) _)))
  have HVK5 : Hid (Blk V5 w5.heap.size 24 #[.int .i64 r.2.2.W, .int .i64 r.2.2.H, .int .i64 r.2.2.S, .slice B5 r.2.2.ss.length c5]) := by rw [← hV5]; exact Blk.new' _ _ _ rfl
  rw [hV5]
  clear hV5
  have HBV5 := Lib.hid (HB5.out.trans (HVB5.out.mono HB5.out.size))
  have HKgV5 := Lib.hid (HKg5.out.below HVB5.out HKg5.out.lt)
  have HKhV5 := Lib.hid (HKh5.out.below HVB5.out HKh5.out.lt)
  have HKnV5 := Lib.hid (HKn5.out.below HVB5.out HKn5.out.lt)
  have HGgV5 := Lib.hid (HGg5.out.later HVB5.out (Nat.le_refl _))
  have HGhV5 := Lib.hid (HGh5.out.later HVB5.out (Nat.le_refl _))
  have HGnV5 := Lib.hid (HGn5.out.later HVB5.out (Nat.le_refl _))
  have HGmV5 := Lib.hid (HG5.out.later HVB5.out (Nat.le_refl _))
  have hlt45 : w4.heap.size < w5.heap.size := HKn5.out.lt
  clear HKg5 HKh5 HKn5 HGg5 HGh5 HGn5 HG5 HKgV4 HKhV4 HVK4 HGgV4 HGhV4 HGnV4
  obtain ⟨p0, p1, p2, p3⟩ := grid_parts HKnV5.out
  obtain ⟨q0, q1, q2, q3⟩ := grid_parts HVK5.out
  have e1 : (r.1 != r.1) = false := by simp
  have e2 : (r.2.1 != r.2.1) = false := by simp
  go_wp2_with fail
  refine (grids_yes _ _ _ _ rfl _ HGnV5.out HGmV5.out).mono ?_
  rintro e w6 ⟨rfl, hb6⟩
  have HB6 := Lib.hid (HBV5.out.trans (hb6.mono HBV5.out.size))
  have HKg6 := Lib.hid (HKgV5.out.below hb6 HKgV5.out.lt)
  have HKh6 := Lib.hid (HKhV5.out.below hb6 HKhV5.out.lt)
  have HKn6 := Lib.hid (HKnV5.out.below hb6 HKnV5.out.lt)
  have HGg6 := Lib.hid (HGgV5.out.later hb6 (Nat.le_refl _))
  have HGh6 := Lib.hid (HGhV5.out.later hb6 (Nat.le_refl _))
  have HGn6 := Lib.hid (HGnV5.out.later hb6 (Nat.le_refl _))
  clear hb6 p0 p1 p2 p3 q0 q1 q2 q3 HKgV5 HKhV5 HKnV5 HVK5 HGgV5 HGhV5 HGnV5 HGmV5
  rcases HNc.out with ⟨i, rfl, hi1, hi2⟩ | ⟨n, rfl, hn0, hn1, hn2⟩
  · obtain ⟨bg, og, rfl, hbg, g1, g2⟩ := (grid_spans HGg6.out).at_ hi1
    have hi1' : i < h.ss.length := by
      have a := (valid_of HM1.out).len
      have b := (valid_of HM2.out).len
      have e1 : g.W = h.W := by rw [← HGm.out, ← HHm.out]; rfl
      have e2 : g.H = h.H := by rw [← HGm.out, ← HHm.out]; rfl
      rw [← e1, ← e2, ← a] at b
      omega
    obtain ⟨bh, oh, rfl, hbh, h1, h2⟩ := (grid_spans HGh6.out).at_ hi1'
    have hi2' : min g.ss[i].2 h.ss[i].2 < max g.ss[i].1 h.ss[i].1 := by
      have h := hi2
      simp only [loF, hiF, List.getD_eq_getElem?_getD, List.getElem?_eq_getElem hi1, List.getElem?_eq_getElem hi1', Option.getD_some] at h
      exact h
    generalize g.ss[i] = gi at *
    generalize h.ss[i] = hi at *
    obtain ⟨ga, gb⟩ := gi
    obtain ⟨ha, hb'⟩ := hi
    simp only at g1 g2 h1 h2 hi2'
    have i0 : (0 : Int) ≤ (i : Int) := by omega
    have i1 : (i : Int) < (g.ss.length : Int) := by omega
    have i2 : (i : Int) < (h.ss.length : Int) := by omega
    have p3 := (grid_parts HKg6.out).2.2.2
    have q3 := (grid_parts HKh6.out).2.2.2
    clear hi2
    have hmx : min gb hb' < max ga ha := hi2'
    go_upto_region 10 with (fail)
    have hB6 := HB6.out
    have l2 : w2.heap.size < w6.heap.size := HKg6.out.lt
    have l3 : w3.heap.size < w6.heap.size := HKh6.out.lt
    go_region_held3 (fun w' => w'.cell? ⟨w2.heap.size, 3, none⟩ = some (.slice (some ⟨bg, og, none⟩) g.ss.length c2) ∧ w'.cell? ⟨w3.heap.size, 3, none⟩ = some (.slice (some ⟨bh, oh, none⟩) h.ss.length c3) ∧ w'.cell? ⟨bg, og + i * 2, none⟩ = some (.int .i64 ga) ∧ w'.cell? ⟨bg, og + i * 2 + 1, none⟩ = some (.int .i64 gb) ∧ w'.cell? ⟨bh, oh + i * 2, none⟩ = some (.int .i64 ha) ∧ w'.cell? ⟨bh, oh + i * 2 + 1, none⟩ = some (.int .i64 hb'))
      (first | assumption | (refine ⟨?_, ?_, ?_, ?_, ?_, ?_⟩ <;> assumption) | go_keep)
      (first | (go_at_call 13; refine (works_any _ (HLV.out.below (by first | exact Below.drewN' hB6 _ | exact Below.drew hB6 | exact hB6))).mono ?_; rintro e w7 ⟨rfl, hb7⟩; have s1 := (hb7.cell (p := ⟨w2.heap.size, 3, none⟩) l2).trans p3; have s2 := (hb7.cell (p := ⟨w3.heap.size, 3, none⟩) l3).trans q3; have s3 := (hb7.cell (p := ⟨bg, og + i * 2, none⟩) hbg).trans g1; have s4 := (hb7.cell (p := ⟨bg, og + i * 2 + 1, none⟩) hbg).trans g2; have s5 := (hb7.cell (p := ⟨bh, oh + i * 2, none⟩) hbh).trans h1; have s6 := (hb7.cell (p := ⟨bh, oh + i * 2 + 1, none⟩) hbh).trans h2; have HB7 := Lib.hid (Below.trans (by first | exact Below.drewN' hB6 _ | exact Below.drew hB6 | exact hB6) (hb7.mono hB6.size)); clear hb7))
    all_goals
      go_wp2
      go_ret
      exact ⟨rfl, HB7.out.trans (by repeat (first | exact Below.refl _ _ | assumption | refine Below.drew ?_ | refine Below.drewN' ?_ _ | (refine Below.alloc ?_ (by simp <;> omega) _) | (refine Below.setCell ?_ (by simp <;> omega) _)))⟩
  · have hnl : n.ss.length = g.ss.length := hn1.len
    have hhl : h.ss.length = g.ss.length := hn2.len.symm.trans hn1.len
    have HKn6' := Lib.hid (show Blk w6 w4.heap.size 24 #[.int .i64 n.W, .int .i64 n.H, .int .i64 n.S, .slice B4 g.ss.length c4] from by have h := HKn6.out; dsimp only at h; rw [hnl] at h; exact h)
    have HGn6' := Lib.hid (show GridAt w6 w6.heap.size (.agg #[.int .i64 n.W, .int .i64 n.H, .int .i64 n.S, .slice B4 g.ss.length c4]) n from by have h := HGn6.out; dsimp only at h; rw [hnl] at h; exact h)
    have HKh6' := Lib.hid (show Blk w6 w3.heap.size 24 #[.int .i64 h.W, .int .i64 h.H, .int .i64 h.S, .slice B3 g.ss.length c3] from by have k := HKh6.out; rw [hhl] at k; exact k)
    have HGh6' := Lib.hid (show GridAt w6 w6.heap.size (.agg #[.int .i64 h.W, .int .i64 h.H, .int .i64 h.S, .slice B3 g.ss.length c3]) h from by have k := HGh6.out; rw [hhl] at k; exact k)
    clear HKn6 HGn6 HKh6 HGh6
    have HKn6 := HKn6'
    have HGn6 := HGn6'
    have HKh6 := HKh6'
    have HGh6 := HGh6'
    clear HKn6' HGn6' HKh6' HGh6'
    have HNL := Lib.hid (And.intro hnl hhl)
    clear hnl hhl
    have V := valid_of HM1.out
    have hlv1 := tmod_rng lev
    obtain ⟨lv, hlv⟩ : ∃ lv, lev.tmod 15000 = lv := ⟨_, rfl⟩
    rw [hlv] at hlv1
    have wl : IntKind.i64.wrap lev = lev := IntWalk.i64_in _ (by omega)
    have hpos := V.pos
    have hsm := V.small
    obtain ⟨hlv2, hlv3⟩ := hlv1
    obtain ⟨hlev1, hlev2⟩ := hlev
    have HV := Lib.hid V
    clear V
    obtain ⟨p0, p1, p2, p3⟩ := grid_parts HKg6.out
    go_wp2_with fail
    refine (seas_any _ _ g sea _ HGg6.out (HZ.out.later HB6.out (Nat.le_refl _)) HXR.out.2.2.2.2 (by omega) (by omega) (by have := HS10.out; omega)).mono ?_
    rintro e w7 ⟨v7, rfl, hi7, hb7⟩
    have HI7 := Lib.hid hi7
    obtain ⟨B7, c7, rfl, _, _⟩ := hi7.open_
    have HB7 := Lib.hid (HB6.out.trans (hb7.mono HB6.out.size))
    have HKg7 := Lib.hid (HKg6.out.below hb7 HKg6.out.lt)
    have HKh7 := Lib.hid (HKh6.out.below hb7 HKh6.out.lt)
    have HKn7 := Lib.hid (HKn6.out.below hb7 HKn6.out.lt)
    have HGg7 := Lib.hid (HGg6.out.later hb7 (Nat.le_refl _))
    have HGh7 := Lib.hid (HGh6.out.later hb7 (Nat.le_refl _))
    have HGn7 := Lib.hid (HGn6.out.later hb7 (Nat.le_refl _))
    clear hb7 p0 p1 p2 p3 HKg6 HKh6 HKn6 HGg6 HGh6 HGn6
    go_upto_region 12 with (fail)
    obtain ⟨V7, hV7⟩ : ∃ V, w7.alloc (.cells #[.int .i64 lv, .int .i64 (lv + 9)] 34) = V := ⟨_, rfl⟩
    have HVB7 : Hid (Below w7.heap.size w7 V7) := by rw [← hV7]; exact (by repeat (first | exact Below.refl _ _ | assumption | refine Below.drew ?_ | refine Below.drewN' ?_ _ | (refine Below.alloc ?_ (by simp <;> omega) _) | (refine Below.setCell ?_ (by simp <;> omega) _)))
    have HVK7 : Hid (Blk V7 w7.heap.size 34 #[.int .i64 lv, .int .i64 (lv + 9)]) := by rw [← hV7]; exact Blk.new' _ _ _ rfl
    rw [hV7]
    clear hV7
    have HBV7 := Lib.hid (HB7.out.trans (HVB7.out.mono HB7.out.size))
    have HKgV7 := Lib.hid (HKg7.out.below HVB7.out HKg7.out.lt)
    have HKhV7 := Lib.hid (HKh7.out.below HVB7.out HKh7.out.lt)
    have HKnV7 := Lib.hid (HKn7.out.below HVB7.out HKn7.out.lt)
    have HGgV7 := Lib.hid (HGg7.out.later HVB7.out (Nat.le_refl _))
    have HGhV7 := Lib.hid (HGh7.out.later HVB7.out (Nat.le_refl _))
    have HGnV7 := Lib.hid (HGn7.out.later HVB7.out (Nat.le_refl _))
    have HIV7 := Lib.hid (HI7.out.later HVB7.out (Nat.le_refl _))
    have Hs0 := Lib.hid (seas_ok HM1.out sea)
    have Hs1 : Hid (seaE n (seasL g.ss.length sea) = 0) := by rw [Hid, ← hn1.len]; exact seas_ok hn0 sea
    have HNW := Lib.hid (And.intro hn1 hn2)
    have Hn0 := Lib.hid hn0
    clear HKg7 HKh7 HKn7 HGg7 HGh7 HGn7 HI7 hn0 hn1 hn2 hi7
    obtain ⟨p0, p1, p2, p3⟩ := grid_parts HKgV7.out
    obtain ⟨q0, q1, q2, q3⟩ := grid_parts HKnV7.out
    go_wp2_with fail
    refine (Sills_any _ _ g _ _ HGgV7.out HIV7.out).mono ?_
    rintro e w8 ⟨v8, ss, rfl, hs8, hb8, hc8⟩
    obtain ⟨sts, hsts⟩ : ∃ sts, (seasL g.ss.length sea).map Int.toNat = sts := ⟨_, rfl⟩
    have HSts := Lib.hid hsts
    have HZ8 : Hid (Sillz g sts ss) := by
      rcases hc8 with ⟨hc, _⟩ | ⟨_, sts', hl, hz⟩
      · exact absurd Hs0.out hc
      · rw [← HSts.out, ← sts_eq hl]; exact hz
    have HS8 := Lib.hid hs8
    have hl8 := HZ8.out.length
    obtain ⟨B8, c8, rfl, _, _⟩ := hs8.open_
    rw [hl8]
    rw [Hs0.out]
    have HB8 := Lib.hid (HBV7.out.trans (hb8.mono HBV7.out.size))
    have HKg8 := Lib.hid (HKgV7.out.below hb8 HKgV7.out.lt)
    have HKh8 := Lib.hid (HKhV7.out.below hb8 HKhV7.out.lt)
    have HKn8 := Lib.hid (HKnV7.out.below hb8 HKnV7.out.lt)
    have HKs8 := Lib.hid (HVK7.out.below hb8 HVK7.out.lt)
    have HGg8 := Lib.hid (HGgV7.out.later hb8 (Nat.le_refl _))
    have HGh8 := Lib.hid (HGhV7.out.later hb8 (Nat.le_refl _))
    have HGn8 := Lib.hid (HGnV7.out.later hb8 (Nat.le_refl _))
    have HI8 := Lib.hid (HIV7.out.later hb8 (Nat.le_refl _))
    clear hb8 hs8 hc8 hsts p0 p1 p2 p3 q0 q1 q2 q3 HKgV7 HKhV7 HKnV7 HVK7 HGgV7 HGhV7 HGnV7 HIV7
    have Hl8 := Lib.hid hl8
    clear hl8
    obtain ⟨p0, p1, p2, p3⟩ := grid_parts HKg8.out
    obtain ⟨q0, q1, q2, q3⟩ := grid_parts HKn8.out
    go_wp2_with fail
    refine (Sills_any _ _ n _ _ HGn8.out HI8.out).mono ?_
    rintro e w9 ⟨v9, ts, rfl, hs9, hb9, hc9⟩
    have HZ9 : Hid (Sillz n sts ts) := by
      rcases hc9 with ⟨hc, _⟩ | ⟨_, sts', hl, hz⟩
      · exact absurd Hs1.out hc
      · rw [← HSts.out, ← sts_eq hl]; exact hz
    have HS9 := Lib.hid hs9
    have hl9 := HZ9.out.length
    obtain ⟨B9, c9, rfl, _, _⟩ := hs9.open_
    rw [hl9, HNL.out.1]
    rw [Hs1.out]
    have HB9 := Lib.hid (HB8.out.trans (hb9.mono HB8.out.size))
    have HKg9 := Lib.hid (HKg8.out.below hb9 HKg8.out.lt)
    have HKh9 := Lib.hid (HKh8.out.below hb9 HKh8.out.lt)
    have HKn9 := Lib.hid (HKn8.out.below hb9 HKn8.out.lt)
    have HKs9 := Lib.hid (HKs8.out.below hb9 HKs8.out.lt)
    have HGg9 := Lib.hid (HGg8.out.later hb9 (Nat.le_refl _))
    have HGh9 := Lib.hid (HGh8.out.later hb9 (Nat.le_refl _))
    have HGn9 := Lib.hid (HGn8.out.later hb9 (Nat.le_refl _))
    have HI9 := Lib.hid (HI8.out.later hb9 (Nat.le_refl _))
    have HS89 := Lib.hid (HS8.out.later hb9 (Nat.le_refl _))
    have Hl9 := Lib.hid hl9
    clear hb9 hs9 hc9 hl9 p0 p1 p2 p3 q0 q1 q2 q3 HKg8 HKh8 HKn8 HKs8 HGg8 HGh8 HGn8 HI8 HS8
    obtain ⟨p0, p1, p2, p3⟩ := grid_parts HKg9.out
    obtain ⟨q0, q1, q2, q3⟩ := grid_parts HKn9.out
    have HPg := Lib.hid (ponds_k HGg9.out HI9.out Hs0.out HSts.out)
    have HPn := Lib.hid (ponds_k HGn9.out HI9.out Hs1.out HSts.out)
    clear p0 p1 p2 p3 q0 q1 q2 q3
    have HC := Lib.hid (Below.drew (Below.refl w9.heap.size w9))
    obtain ⟨p0, p1, p2, p3⟩ := grid_parts (HKg9.out.below HC.out HKg9.out.lt)
    obtain ⟨q0, q1, q2, q3⟩ := grid_parts (HKn9.out.below HC.out HKn9.out.lt)
    go_upto_region 14 with (fail)
    go_cut [23, 24] from 144 to 156 (fun p q wx => TwoPonds g n sts w9 p q wx)
    case first =>
      go_region_held3 (fun w' => w'.cell? ⟨w2.heap.size, 0, none⟩ = some (.int .i64 g.W) ∧ w'.cell? ⟨w2.heap.size, 1, none⟩ = some (.int .i64 g.H) ∧ w'.cell? ⟨w2.heap.size, 2, none⟩ = some (.int .i64 g.S) ∧ w'.cell? ⟨w2.heap.size, 3, none⟩ = some (.slice B2 g.ss.length c2) ∧ w'.cell? ⟨w4.heap.size, 0, none⟩ = some (.int .i64 n.W) ∧ w'.cell? ⟨w4.heap.size, 1, none⟩ = some (.int .i64 n.H) ∧ w'.cell? ⟨w4.heap.size, 2, none⟩ = some (.int .i64 n.S) ∧ w'.cell? ⟨w4.heap.size, 3, none⟩ = some (.slice B4 g.ss.length c4))
        (first | assumption | (refine ⟨?_, ?_, ?_, ?_, ?_, ?_, ?_, ?_⟩ <;> assumption) | go_keep)
        (first
        | (go_at_call 26; (with_reducible refine (HPg.out _ HC.out).mono ?_); rintro e w10 ⟨v10, ps, rfl, hs10, hz10, hb10, hc10⟩; clear HC p0 p1 p2 p3 q0 q1 q2 q3 hc10; have HC := hb10; clear hb10; obtain ⟨p0, p1, p2, p3⟩ := grid_parts (HKg9.out.below HC.out HKg9.out.lt); obtain ⟨q0, q1, q2, q3⟩ := grid_parts (HKn9.out.below HC.out HKn9.out.lt))
        | (go_at_call 26; (with_reducible refine (HPn.out _ HC.out).mono ?_); rintro e w11 ⟨v11, qs, rfl, hs11, hz11, hb11, hc11⟩; clear HC p0 p1 p2 p3 q0 q1 q2 q3; have HC := hb11; clear hb11; obtain ⟨p0, p1, p2, p3⟩ := grid_parts (HKg9.out.below HC.out HKg9.out.lt); obtain ⟨q0, q1, q2, q3⟩ := grid_parts (HKn9.out.below HC.out HKn9.out.lt))
        | (go_at_call 46; refine (spansOf_ok _ _).mono ?_; rintro e w12 ⟨rfl, rfl⟩))
      all_goals
        go_wp2_with fail
        go_meet
        exact ⟨_, _, hs10.out.later hc11.out (Nat.le_refl _), hs11.out, hz10.out, hz11.out, HC.out⟩
    case rest =>
      obtain ⟨ps, qs, hs10, hs11, hz10, hz11, hb11⟩ := hcut
      obtain ⟨B10, c10, rfl⟩ := hs10.open_len hz10.length
      obtain ⟨B11, c11, rfl⟩ := hs11.open_len (hz11.length.trans HNL.out.1)
      have HS10 := Lib.hid hs10
      have HS11 := Lib.hid hs11
      have HP10 := Lib.hid hz10
      have HP11 := Lib.hid hz11
      have HBc := Lib.hid hb11
      clear hs10 hs11 hz10 hz11 hb11 HPg HPn
      have HB11 := Lib.hid (HB9.out.trans (HBc.out.mono HB9.out.size))
      have HKg11 := Lib.hid (HKg9.out.below HBc.out HKg9.out.lt)
      have HKh11 := Lib.hid (HKh9.out.below HBc.out HKh9.out.lt)
      have HKn11 := Lib.hid (HKn9.out.below HBc.out HKn9.out.lt)
      have HKs11 := Lib.hid (HKs9.out.below HBc.out HKs9.out.lt)
      have HGg11 := Lib.hid (HGg9.out.later HBc.out (Nat.le_refl _))
      have HGh11 := Lib.hid (HGh9.out.later HBc.out (Nat.le_refl _))
      have HGn11 := Lib.hid (HGn9.out.later HBc.out (Nat.le_refl _))
      have HI11 := Lib.hid (HI9.out.later HBc.out (Nat.le_refl _))
      have HS811 := Lib.hid (HS89.out.later HBc.out (Nat.le_refl _))
      have HS911 := Lib.hid (HS9.out.later HBc.out (Nat.le_refl _))
      clear HBc HC p0 p1 p2 p3 q0 q1 q2 q3 HKg9 HKh9 HKn9 HKs9 HGg9 HGh9 HGn9 HI9 HS89 HS9
      obtain ⟨p0, p1, p2, p3⟩ := grid_parts HKg11.out
      have y0 := HKs11.out.cell 0
      have y1 := HKs11.out.cell 1
      simp only [List.getElem?_toArray, List.getElem?_cons_zero, List.getElem?_cons_succ] at y0 y1
      have hfg : floodE g (seasL g.ss.length sea) lv (lv + 9) = 0 := flood_zero Hs0.out (by omega) (by omega) (by omega)
      have hfn : floodE n (seasL g.ss.length sea) lv (lv + 9) = 0 := flood_zero Hs1.out (by omega) (by omega) (by omega)
      have HFg := Lib.hid hfg
      have HFn := Lib.hid hfn
      clear hfg hfn
      go_wp2_with fail
      refine (Flood_any _ _ g _ lv (lv + 9) _ HGg11.out HI11.out).mono ?_
      rintro e w12 ⟨v12, u12, bs, cs, rfl, hv12, hu12, hb12, hc12⟩
      have HF12 := Lib.hid (flood_case HFg.out HSts.out hc12)
      rw [HFg.out]
      obtain ⟨B12, c12, rfl⟩ := hv12.open_len HF12.out.length.1
      obtain ⟨D12, k12, rfl⟩ := hu12.open_len HF12.out.length.2
      have HV12 := Lib.hid hv12
      have HU12 := Lib.hid hu12
      have HB12 := Lib.hid (HB11.out.trans (hb12.mono HB11.out.size))
      have HKg12 := Lib.hid (HKg11.out.below hb12 HKg11.out.lt)
      have HKh12 := Lib.hid (HKh11.out.below hb12 HKh11.out.lt)
      have HKn12 := Lib.hid (HKn11.out.below hb12 HKn11.out.lt)
      have HKs12 := Lib.hid (HKs11.out.below hb12 HKs11.out.lt)
      have HGg12 := Lib.hid (HGg11.out.later hb12 (Nat.le_refl _))
      have HGh12 := Lib.hid (HGh11.out.later hb12 (Nat.le_refl _))
      have HGn12 := Lib.hid (HGn11.out.later hb12 (Nat.le_refl _))
      have HI12 := Lib.hid (HI11.out.later hb12 (Nat.le_refl _))
      have HS812 := Lib.hid (HS811.out.later hb12 (Nat.le_refl _))
      have HS912 := Lib.hid (HS911.out.later hb12 (Nat.le_refl _))
      have HS1012 := Lib.hid (HS10.out.later hb12 (Nat.le_refl _))
      have HS1112 := Lib.hid (HS11.out.later hb12 (Nat.le_refl _))
      clear hb12 hv12 hu12 hc12 p0 p1 p2 p3 y0 y1 HKg11 HKh11 HKn11 HKs11 HGg11 HGh11 HGn11 HI11 HS811 HS911 HS10 HS11
      obtain ⟨q0, q1, q2, q3⟩ := grid_parts HKn12.out
      have y0 := HKs12.out.cell 0
      have y1 := HKs12.out.cell 1
      simp only [List.getElem?_toArray, List.getElem?_cons_zero, List.getElem?_cons_succ] at y0 y1
      go_wp2_with fail
      refine (Flood_any _ _ n _ lv (lv + 9) _ HGn12.out HI12.out).mono ?_
      rintro e w13 ⟨v13, u13, ds, es, rfl, hv13, hu13, hb13, hc13⟩
      have HF13 := Lib.hid (flood_case HFn.out HSts.out hc13)
      rw [HFn.out]
      obtain ⟨B13, c13, rfl⟩ := hv13.open_len (HF13.out.length.1.trans HNL.out.1)
      obtain ⟨D13, k13, rfl⟩ := hu13.open_len (HF13.out.length.2.trans HNL.out.1)
      have HV13 := Lib.hid hv13
      have HU13 := Lib.hid hu13
      have HB13 := Lib.hid (HB12.out.trans (hb13.mono HB12.out.size))
      have HKg13 := Lib.hid (HKg12.out.below hb13 HKg12.out.lt)
      have HKh13 := Lib.hid (HKh12.out.below hb13 HKh12.out.lt)
      have HKn13 := Lib.hid (HKn12.out.below hb13 HKn12.out.lt)
      have HGg13 := Lib.hid (grid_spans (HGg12.out.later hb13 (Nat.le_refl _)))
      have HGh13 := Lib.hid (grid_spans (HGh12.out.later hb13 (Nat.le_refl _)))
      have HGn13 := Lib.hid (grid_spans (HGn12.out.later hb13 (Nat.le_refl _)))
      have HS813 := Lib.hid (HS812.out.later hb13 (Nat.le_refl _))
      have HS913 := Lib.hid (HS912.out.later hb13 (Nat.le_refl _))
      have HS1013 := Lib.hid (HS1012.out.later hb13 (Nat.le_refl _))
      have HS1113 := Lib.hid (HS1112.out.later hb13 (Nat.le_refl _))
      have HV1213 := Lib.hid (HV12.out.later hb13 (Nat.le_refl _))
      have HU1213 := Lib.hid (HU12.out.later hb13 (Nat.le_refl _))
      clear hb13 hv13 hu13 hc13 q0 q1 q2 q3 y0 y1 HKg12 HKh12 HKn12 HKs12 HGg12 HGh12 HGn12 HI12 HS812 HS912 HS1012 HS1112 HV12 HU12
      have HAT := Lib.hid (fun c hc => fewer_at HNW.out.1 HNW.out.2 HM1.out Hn0.out HSts.out HZ8.out HZ9.out HP10.out HP11.out HF12.out HF13.out (c := c) hc)
      have hL25 := HL1.out
      obtain ⟨p0, p1, p2, p3⟩ := grid_parts HKg13.out
      obtain ⟨q0, q1, q2, q3⟩ := grid_parts HKn13.out
      go_wp2_with fail
      clear p0 p1 p2 p3 q0 q1 q2 q3
      go_loopw [246] (fun i wr => ∃ k : Nat, k ≤ g.ss.length ∧ i = .int .i64 k ∧ Hid (Below w13.heap.size w13 wr)) (fun i _ => g.ss.length - (intOf i).toNat)
      case atStart => exact ⟨0, Nat.zero_le _, rfl, Below.refl _ _⟩
      case round =>
        obtain ⟨k, hk, rfl, HBr⟩ := hrel
        have HBw := Lib.hid (HB13.out.trans (HBr.out.mono HB13.out.size))
        by_cases hlt : k < g.ss.length
        · have hk0 : (0 : Int) ≤ (k : Int) := by omega
          have hk1 : (k : Int) < (g.ss.length : Int) := by omega
          obtain ⟨r1, r2, r3, r4, r5, r6⟩ := HAT.out k hlt
          obtain ⟨p0, p1, p2, p3⟩ := grid_parts (HKn13.out.below HBr.out HKn13.out.lt)
          obtain ⟨q0, q1, q2, q3⟩ := grid_parts (HKg13.out.below HBr.out HKg13.out.lt)
          obtain ⟨o0, o1, o2, o3⟩ := grid_parts (HKh13.out.below HBr.out HKh13.out.lt)
          clear p0 p1 p2 q0 q1 q2 o0 o1 o2
          have lg : w2.heap.size < wr.heap.size := Nat.lt_of_lt_of_le HKg13.out.lt HBr.out.size
          have lh : w3.heap.size < wr.heap.size := Nat.lt_of_lt_of_le HKh13.out.lt HBr.out.size
          have ln : w4.heap.size < wr.heap.size := Nat.lt_of_lt_of_le HKn13.out.lt HBr.out.size
          have sz := HBr.out.size
          obtain ⟨bg, og, ga, gb, rfl, hbg, eg, g1, g2⟩ := (HGg13.out.below HBr.out).atD (k := k) hlt
          obtain ⟨bh, oh, ha, hb', rfl, hbh, eh, h1, h2⟩ := (HGh13.out.below HBr.out).atD (k := k) (by rw [HNL.out.2]; exact hlt)
          obtain ⟨bn, on, na, nb, rfl, hbn, en, n1, n2⟩ := (HGn13.out.below HBr.out).atD (k := k) (by rw [HNL.out.1]; exact hlt)
          obtain ⟨b8, o8, a8, z8, rfl, hb8, e8, c81, c82⟩ := (HS813.out.below HBr.out).atD (k := k) (by rw [HZ8.out.length]; exact hlt)
          obtain ⟨b9, o9, a9, z9, rfl, hb9, e9, c91, c92⟩ := (HS913.out.below HBr.out).atD (k := k) (by rw [HZ9.out.length, HNL.out.1]; exact hlt)
          obtain ⟨b10, o10, a10, z10, rfl, hb10, e10, c101, c102⟩ := (HS1013.out.below HBr.out).atD (k := k) (by rw [HP10.out.length]; exact hlt)
          obtain ⟨b11, o11, a11, z11, rfl, hb11, e11, c111, c112⟩ := (HS1113.out.below HBr.out).atD (k := k) (by rw [HP11.out.length, HNL.out.1]; exact hlt)
          obtain ⟨b12, o12, x12, rfl, hb12, e12, c12'⟩ := (HV1213.out.below HBr.out).atD (k := k) (by rw [HF12.out.length.1]; exact hlt)
          obtain ⟨d12, p12, y12, rfl, hd12, f12, c12''⟩ := (HU1213.out.below HBr.out).atD (k := k) (by rw [HF12.out.length.2]; exact hlt)
          obtain ⟨b13, o13, x13, rfl, hb13, e13, c13'⟩ := (HV13.out.below HBr.out).atD (k := k) (by rw [HF13.out.length.1, HNL.out.1]; exact hlt)
          obtain ⟨d13, p13, y13, rfl, hd13, f13, c13''⟩ := (HU13.out.below HBr.out).atD (k := k) (by rw [HF13.out.length.2, HNL.out.1]; exact hlt)
          rw [en, eg] at r1
          rw [en, eh] at r2
          rw [e9, e8] at r3
          rw [e11, e10] at r4
          rw [e12, e13] at r5
          rw [f13, f12] at r6
          have R1 := Lib.hid r1
          have R2 := Lib.hid r2
          have R3 := Lib.hid r3
          have R4 := Lib.hid r4
          have R5 := Lib.hid r5
          have R6 := Lib.hid r6
          clear r1 r2 r3 r4 r5 r6 en eg eh e8 e9 e10 e11 e12 e13 f12 f13
          replace hbg : bg < wr.heap.size := by omega
          replace hbh : bh < wr.heap.size := by omega
          replace hbn : bn < wr.heap.size := by omega
          replace hb8 : b8 < wr.heap.size := by omega
          replace hb9 : b9 < wr.heap.size := by omega
          replace hb10 : b10 < wr.heap.size := by omega
          replace hb11 : b11 < wr.heap.size := by omega
          replace hb12 : b12 < wr.heap.size := by omega
          replace hb13 : b13 < wr.heap.size := by omega
          replace hd12 : d12 < wr.heap.size := by omega
          replace hd13 : d13 < wr.heap.size := by omega
          have HBk := HBr.out
          have HSk : Hid (∀ W, Below wr.heap.size wr W → W.cell? ⟨w4.heap.size, 3, none⟩ = some (.slice (some ⟨bn, on, none⟩) g.ss.length c4) ∧ W.cell? ⟨w2.heap.size, 3, none⟩ = some (.slice (some ⟨bg, og, none⟩) g.ss.length c2) ∧ W.cell? ⟨w3.heap.size, 3, none⟩ = some (.slice (some ⟨bh, oh, none⟩) g.ss.length c3) ∧ W.cell? ⟨bn, on + k * 2, none⟩ = some (.int .i64 na) ∧ W.cell? ⟨bn, on + k * 2 + 1, none⟩ = some (.int .i64 nb) ∧ W.cell? ⟨bg, og + k * 2, none⟩ = some (.int .i64 ga) ∧ W.cell? ⟨bg, og + k * 2 + 1, none⟩ = some (.int .i64 gb) ∧ W.cell? ⟨bh, oh + k * 2, none⟩ = some (.int .i64 ha) ∧ W.cell? ⟨bh, oh + k * 2 + 1, none⟩ = some (.int .i64 hb') ∧ W.cell? ⟨b9, o9 + k * 2, none⟩ = some (.int .i64 a9) ∧ W.cell? ⟨b9, o9 + k * 2 + 1, none⟩ = some (.int .i64 z9) ∧ W.cell? ⟨b8, o8 + k * 2, none⟩ = some (.int .i64 a8) ∧ W.cell? ⟨b8, o8 + k * 2 + 1, none⟩ = some (.int .i64 z8) ∧ W.cell? ⟨b11, o11 + k * 2, none⟩ = some (.int .i64 a11) ∧ W.cell? ⟨b11, o11 + k * 2 + 1, none⟩ = some (.int .i64 z11) ∧ W.cell? ⟨b10, o10 + k * 2, none⟩ = some (.int .i64 a10) ∧ W.cell? ⟨b10, o10 + k * 2 + 1, none⟩ = some (.int .i64 z10) ∧ W.cell? ⟨b12, o12 + k, none⟩ = some (.bool x12) ∧ W.cell? ⟨d12, p12 + k, none⟩ = some (.bool y12) ∧ W.cell? ⟨b13, o13 + k, none⟩ = some (.bool x13) ∧ W.cell? ⟨d13, p13 + k, none⟩ = some (.bool y13)) := fun W hW => ⟨(hW.cell (p := ⟨w4.heap.size, 3, none⟩) ln).trans p3, (hW.cell (p := ⟨w2.heap.size, 3, none⟩) lg).trans q3, (hW.cell (p := ⟨w3.heap.size, 3, none⟩) lh).trans o3, (hW.cell (p := ⟨bn, on + k * 2, none⟩) hbn).trans n1, (hW.cell (p := ⟨bn, on + k * 2 + 1, none⟩) hbn).trans n2, (hW.cell (p := ⟨bg, og + k * 2, none⟩) hbg).trans g1, (hW.cell (p := ⟨bg, og + k * 2 + 1, none⟩) hbg).trans g2, (hW.cell (p := ⟨bh, oh + k * 2, none⟩) hbh).trans h1, (hW.cell (p := ⟨bh, oh + k * 2 + 1, none⟩) hbh).trans h2, (hW.cell (p := ⟨b9, o9 + k * 2, none⟩) hb9).trans c91, (hW.cell (p := ⟨b9, o9 + k * 2 + 1, none⟩) hb9).trans c92, (hW.cell (p := ⟨b8, o8 + k * 2, none⟩) hb8).trans c81, (hW.cell (p := ⟨b8, o8 + k * 2 + 1, none⟩) hb8).trans c82, (hW.cell (p := ⟨b11, o11 + k * 2, none⟩) hb11).trans c111, (hW.cell (p := ⟨b11, o11 + k * 2 + 1, none⟩) hb11).trans c112, (hW.cell (p := ⟨b10, o10 + k * 2, none⟩) hb10).trans c101, (hW.cell (p := ⟨b10, o10 + k * 2 + 1, none⟩) hb10).trans c102, (hW.cell (p := ⟨b12, o12 + k, none⟩) hb12).trans c12', (hW.cell (p := ⟨d12, p12 + k, none⟩) hd12).trans c12'', (hW.cell (p := ⟨b13, o13 + k, none⟩) hb13).trans c13', (hW.cell (p := ⟨d13, p13 + k, none⟩) hd13).trans c13''⟩
          clear sz HBk p3 q3 o3 n1 n2 g1 g2 h1 h2 c91 c92 c81 c82 c111 c112 c101 c102 c12' c12'' c13' c13''
          clear hb10 hb11 hb12 hb13 hb8 hb9 hbg hbh hbn hd12 hd13 lg lh ln
          have HW1 := Lib.hid (lwithin_k R1.out wr)
          have HW2 := Lib.hid (lwithin_k R2.out wr)
          have HW3 := Lib.hid (lwithin_k R3.out wr)
          have HW4 := Lib.hid (lwithin_k R4.out wr)
          have cases5 : (x12 = false ∨ x12 = true ∧ x13 = true) := by have := R5.out; cases x12 <;> simp_all
          have cases6 : (y13 = false ∨ y13 = true ∧ y12 = true) := by have := R6.out; cases y13 <;> simp_all
          clear R1 R2 R3 R4 R5 R6
          have HC := Lib.hid (Below.drew (Below.refl wr.heap.size wr))
          go_upto_region 22 with (fail)
          go_cut [324] from 249 to 325 (fun s wx => s = .bool false ∧ Below wr.heap.size wr wx)
          case first =>
            obtain ⟨t0, t1, t2, t3, t4, t5, t6, t7, t8, t9, t10, t11, t12, t13, t14, t15, t16, t17, t18, t19, t20⟩ := HSk.out _ HC.out
            simp only [List.append_eq, List.cons_append, List.nil_append]
            refine wp_region_noPanic ?_
            refine wp_region_held_drew (S := (fun w' => w'.cell? ⟨w4.heap.size, 3, none⟩ = some (.slice (some ⟨bn, on, none⟩) g.ss.length c4) ∧ w'.cell? ⟨w2.heap.size, 3, none⟩ = some (.slice (some ⟨bg, og, none⟩) g.ss.length c2) ∧ w'.cell? ⟨w3.heap.size, 3, none⟩ = some (.slice (some ⟨bh, oh, none⟩) g.ss.length c3) ∧ w'.cell? ⟨bn, on + k * 2, none⟩ = some (.int .i64 na) ∧ w'.cell? ⟨bn, on + k * 2 + 1, none⟩ = some (.int .i64 nb) ∧ w'.cell? ⟨bg, og + k * 2, none⟩ = some (.int .i64 ga) ∧ w'.cell? ⟨bg, og + k * 2 + 1, none⟩ = some (.int .i64 gb) ∧ w'.cell? ⟨bh, oh + k * 2, none⟩ = some (.int .i64 ha) ∧ w'.cell? ⟨bh, oh + k * 2 + 1, none⟩ = some (.int .i64 hb') ∧ w'.cell? ⟨b9, o9 + k * 2, none⟩ = some (.int .i64 a9) ∧ w'.cell? ⟨b9, o9 + k * 2 + 1, none⟩ = some (.int .i64 z9) ∧ w'.cell? ⟨b8, o8 + k * 2, none⟩ = some (.int .i64 a8) ∧ w'.cell? ⟨b8, o8 + k * 2 + 1, none⟩ = some (.int .i64 z8) ∧ w'.cell? ⟨b11, o11 + k * 2, none⟩ = some (.int .i64 a11) ∧ w'.cell? ⟨b11, o11 + k * 2 + 1, none⟩ = some (.int .i64 z11) ∧ w'.cell? ⟨b10, o10 + k * 2, none⟩ = some (.int .i64 a10) ∧ w'.cell? ⟨b10, o10 + k * 2 + 1, none⟩ = some (.int .i64 z10) ∧ w'.cell? ⟨b12, o12 + k, none⟩ = some (.bool x12) ∧ w'.cell? ⟨d12, p12 + k, none⟩ = some (.bool y12) ∧ w'.cell? ⟨b13, o13 + k, none⟩ = some (.bool x13) ∧ w'.cell? ⟨d13, p13 + k, none⟩ = some (.bool y13))) (by kernel_rfl) ?_ (fun hHeld => ?_)
            · (try dsimp only); (refine ⟨?_, ?_, ?_, ?_, ?_, ?_, ?_, ?_, ?_, ?_, ?_, ?_, ?_, ?_, ?_, ?_, ?_, ?_, ?_, ?_, ?_⟩ <;> assumption)
            refine wpAnyH_take (i := 0) (oi := { dst := some 249, op := Op.fieldAddr 24 (Operand.tmp 13) 3, type := 0, pos := "outright.go:189", after := #[], guard := none }) (v := ?_) rfl (by kernel_rfl) (by kernel_rfl) (by kernel_rfl) (fun _ _ _ h => h) (Or.inl ⟨by rfl, ?_⟩) (by assumption) ?_
            rotate_left
            · ((intro w hSw; (try dsimp only at hSw); go_simp) <;> with_reducible rfl)
            try simp only [Act.put, List.setIfInBounds_toArray, List.set_cons_zero, List.set_cons_succ]
            refine wpAnyH_take (i := 1) (oi := { dst := some 250, op := Op.load 22 (Operand.tmp 249), type := 22, pos := "outright.go:189", after := #[{ on := 0, ground := Ground.data }], guard := none }) (v := ?_) rfl (by kernel_rfl) (by kernel_rfl) (by kernel_rfl) (fun _ _ _ h => h) (Or.inl ⟨by rfl, ?_⟩) (by assumption) ?_
            rotate_left
            · ((intro w hSw; (try dsimp only at hSw); go_simp) <;> with_reducible rfl)
            try simp only [Act.put, List.setIfInBounds_toArray, List.set_cons_zero, List.set_cons_succ]
            refine wpAnyH_take (i := 2) (oi := { dst := some 251, op := Op.move (Operand.tmp 31), type := 3, pos := "outright.go:189", after := #[], guard := none }) (v := ?_) rfl (by kernel_rfl) (by kernel_rfl) (by kernel_rfl) (fun _ _ _ h => h) (Or.inl ⟨by rfl, ?_⟩) (by assumption) ?_
            rotate_left
            · ((intro w hSw; (try dsimp only at hSw); go_simp) <;> with_reducible rfl)
            try simp only [Act.put, List.setIfInBounds_toArray, List.set_cons_zero, List.set_cons_succ]
            refine wpAnyH_take (i := 3) (oi := { dst := some 252, op := Op.indexAddr 22 (Operand.tmp 250) (Operand.tmp 251), type := 0, pos := "outright.go:189", after := #[{ on := 1, ground := Ground.data }, { on := 2, ground := Ground.data }], guard := none }) (v := ?_) rfl (by kernel_rfl) (by kernel_rfl) (by kernel_rfl) (fun _ _ _ h => h) (Or.inl ⟨by rfl, ?_⟩) (by assumption) ?_
            rotate_left
            · ((intro w hSw; (try dsimp only at hSw); go_simp) <;> with_reducible rfl)
            try simp only [Act.put, List.setIfInBounds_toArray, List.set_cons_zero, List.set_cons_succ]
            refine wpAnyH_take (i := 4) (oi := { dst := some 253, op := Op.load 34 (Operand.tmp 252), type := 34, pos := "outright.go:189", after := #[{ on := 3, ground := Ground.data }], guard := none }) (v := ?_) rfl (by kernel_rfl) (by kernel_rfl) (by kernel_rfl) (fun _ _ _ h => h) (Or.inl ⟨by rfl, ?_⟩) (by assumption) ?_
            rotate_left
            · ((intro w hSw; (try dsimp only at hSw); go_simp) <;> with_reducible rfl)
            try simp only [Act.put, List.setIfInBounds_toArray, List.set_cons_zero, List.set_cons_succ]
            refine wpAnyH_take (i := 5) (oi := { dst := some 254, op := Op.fieldAddr 24 (Operand.tmp 11) 3, type := 0, pos := "outright.go:189", after := #[], guard := none }) (v := ?_) rfl (by kernel_rfl) (by kernel_rfl) (by kernel_rfl) (fun _ _ _ h => h) (Or.inl ⟨by rfl, ?_⟩) (by assumption) ?_
            rotate_left
            · ((intro w hSw; (try dsimp only at hSw); go_simp) <;> with_reducible rfl)
            try simp only [Act.put, List.setIfInBounds_toArray, List.set_cons_zero, List.set_cons_succ]
            refine wpAnyH_take (i := 6) (oi := { dst := some 255, op := Op.load 22 (Operand.tmp 254), type := 22, pos := "outright.go:189", after := #[{ on := 5, ground := Ground.data }], guard := none }) (v := ?_) rfl (by kernel_rfl) (by kernel_rfl) (by kernel_rfl) (fun _ _ _ h => h) (Or.inl ⟨by rfl, ?_⟩) (by assumption) ?_
            rotate_left
            · ((intro w hSw; (try dsimp only at hSw); go_simp) <;> with_reducible rfl)
            try simp only [Act.put, List.setIfInBounds_toArray, List.set_cons_zero, List.set_cons_succ]
            refine wpAnyH_take (i := 7) (oi := { dst := some 256, op := Op.move (Operand.tmp 31), type := 3, pos := "outright.go:189", after := #[], guard := none }) (v := ?_) rfl (by kernel_rfl) (by kernel_rfl) (by kernel_rfl) (fun _ _ _ h => h) (Or.inl ⟨by rfl, ?_⟩) (by assumption) ?_
            rotate_left
            · ((intro w hSw; (try dsimp only at hSw); go_simp) <;> with_reducible rfl)
            try simp only [Act.put, List.setIfInBounds_toArray, List.set_cons_zero, List.set_cons_succ]
            refine wpAnyH_take (i := 8) (oi := { dst := some 257, op := Op.indexAddr 22 (Operand.tmp 255) (Operand.tmp 256), type := 0, pos := "outright.go:189", after := #[{ on := 6, ground := Ground.data }, { on := 7, ground := Ground.data }], guard := none }) (v := ?_) rfl (by kernel_rfl) (by kernel_rfl) (by kernel_rfl) (fun _ _ _ h => h) (Or.inl ⟨by rfl, ?_⟩) (by assumption) ?_
            rotate_left
            · ((intro w hSw; (try dsimp only at hSw); go_simp) <;> with_reducible rfl)
            try simp only [Act.put, List.setIfInBounds_toArray, List.set_cons_zero, List.set_cons_succ]
            refine wpAnyH_take (i := 9) (oi := { dst := some 258, op := Op.load 34 (Operand.tmp 257), type := 34, pos := "outright.go:189", after := #[{ on := 8, ground := Ground.data }], guard := none }) (v := ?_) rfl (by kernel_rfl) (by kernel_rfl) (by kernel_rfl) (fun _ _ _ h => h) (Or.inl ⟨by rfl, ?_⟩) (by assumption) ?_
            rotate_left
            · ((intro w hSw; (try dsimp only at hSw); go_simp) <;> with_reducible rfl)
            try simp only [Act.put, List.setIfInBounds_toArray, List.set_cons_zero, List.set_cons_succ]
            refine wpAnyH_ready (rs := [10]) (by kernel_rfl) (by simp) ?_
            refine AllReadyH.cons (o := { dst := some 259, op := Op.call { callee := Callee.value (Operand.func 43), args := #[Operand.tmp 253, Operand.tmp 258], argTypes := #[34, 34] }, type := 4, pos := "outright.go:189", after := #[{ on := 4, ground := Ground.data }, { on := 9, ground := Ground.data }], guard := none }) rfl (fun K hK => ?_) AllReadyH.nil
            go_simp
            ((with_reducible refine (HW1.out _ HC.out).mono ?_); rintro e wa ⟨rfl, hba⟩; clear HC t0 t1 t2 t3 t4 t5 t6 t7 t8 t9 t10 t11 t12 t13 t14 t15 t16 t17 t18 t19 t20; have HC := hba; clear hba; obtain ⟨t0, t1, t2, t3, t4, t5, t6, t7, t8, t9, t10, t11, t12, t13, t14, t15, t16, t17, t18, t19, t20⟩ := HSk.out _ HC.out)
            refine hK.out _ _ ?_ (fun hHeld => ?_)
            · (try dsimp only); (refine ⟨?_, ?_, ?_, ?_, ?_, ?_, ?_, ?_, ?_, ?_, ?_, ?_, ?_, ?_, ?_, ?_, ?_, ?_, ?_, ?_, ?_⟩ <;> assumption)
            clear hK K
            try simp only [Act.put, List.setIfInBounds_toArray, List.set_cons_zero, List.set_cons_succ]
            refine wpAnyH_take (i := 11) (oi := { dst := some 260, op := Op.unOp UnOp.not 4 (Operand.tmp 259), type := 4, pos := "outright.go:189", after := #[{ on := 10, ground := Ground.data }], guard := none }) (v := ?_) rfl (by kernel_rfl) (by kernel_rfl) (by kernel_rfl) (fun _ _ _ h => h) (Or.inl ⟨by rfl, ?_⟩) (by assumption) ?_
            rotate_left
            · ((intro w hSw; (try dsimp only at hSw); go_simp) <;> with_reducible rfl)
            try simp only [Act.put, List.setIfInBounds_toArray, List.set_cons_zero, List.set_cons_succ]
            refine wpAnyH_take (i := 12) (oi := { dst := some 261, op := Op.move (Operand.tmp 260), type := 4, pos := "outright.go:189", after := #[{ on := 11, ground := Ground.data }, { on := 10, ground := Ground.chain }], guard := none }) (v := ?_) rfl (by kernel_rfl) (by kernel_rfl) (by kernel_rfl) (fun _ _ _ h => h) (Or.inl ⟨by rfl, ?_⟩) (by assumption) ?_
            rotate_left
            · ((intro w hSw; (try dsimp only at hSw); go_simp) <;> with_reducible rfl)
            try simp only [Act.put, List.setIfInBounds_toArray, List.set_cons_zero, List.set_cons_succ]
            refine wpAnyH_take (i := 13) (oi := { dst := some 262, op := Op.fieldAddr 24 (Operand.tmp 13) 3, type := 0, pos := "outright.go:189", after := #[{ on := 12, ground := Ground.guard }], guard := some (12, false) }) (v := ?_) rfl (by kernel_rfl) (by kernel_rfl) (by kernel_rfl) (fun _ _ _ h => h) (Or.inl ⟨by rfl, ?_⟩) (by assumption) ?_
            rotate_left
            · ((intro w hSw; (try dsimp only at hSw); go_simp) <;> with_reducible rfl)
            try simp only [Act.put, List.setIfInBounds_toArray, List.set_cons_zero, List.set_cons_succ]
            refine wpAnyH_take (i := 14) (oi := { dst := some 263, op := Op.load 22 (Operand.tmp 262), type := 22, pos := "outright.go:189", after := #[{ on := 13, ground := Ground.data }, { on := 12, ground := Ground.guard }], guard := some (12, false) }) (v := ?_) rfl (by kernel_rfl) (by kernel_rfl) (by kernel_rfl) (fun _ _ _ h => h) (Or.inl ⟨by rfl, ?_⟩) (by assumption) ?_
            rotate_left
            · ((intro w hSw; (try dsimp only at hSw); go_simp) <;> with_reducible rfl)
            try simp only [Act.put, List.setIfInBounds_toArray, List.set_cons_zero, List.set_cons_succ]
            refine wpAnyH_take (i := 15) (oi := { dst := some 264, op := Op.move (Operand.tmp 31), type := 3, pos := "outright.go:189", after := #[{ on := 12, ground := Ground.guard }], guard := some (12, false) }) (v := ?_) rfl (by kernel_rfl) (by kernel_rfl) (by kernel_rfl) (fun _ _ _ h => h) (Or.inl ⟨by rfl, ?_⟩) (by assumption) ?_
            rotate_left
            · ((intro w hSw; (try dsimp only at hSw); go_simp) <;> with_reducible rfl)
            try simp only [Act.put, List.setIfInBounds_toArray, List.set_cons_zero, List.set_cons_succ]
            as_aux_lemma =>
             refine wpAnyH_take (i := 16) (oi := { dst := some 265, op := Op.indexAddr 22 (Operand.tmp 263) (Operand.tmp 264), type := 0, pos := "outright.go:189", after := #[{ on := 14, ground := Ground.data }, { on := 15, ground := Ground.data }, { on := 12, ground := Ground.guard }], guard := some (12, false) }) (v := ?_) rfl (by kernel_rfl) (by kernel_rfl) (by kernel_rfl) (fun _ _ _ h => h) (Or.inl ⟨by rfl, ?_⟩) (by assumption) ?_
             rotate_left
             · ((intro w hSw; (try dsimp only at hSw); go_simp) <;> with_reducible rfl)
             try simp only [Act.put, List.setIfInBounds_toArray, List.set_cons_zero, List.set_cons_succ]
             refine wpAnyH_take (i := 17) (oi := { dst := some 266, op := Op.load 34 (Operand.tmp 265), type := 34, pos := "outright.go:189", after := #[{ on := 16, ground := Ground.data }, { on := 12, ground := Ground.guard }], guard := some (12, false) }) (v := ?_) rfl (by kernel_rfl) (by kernel_rfl) (by kernel_rfl) (fun _ _ _ h => h) (Or.inl ⟨by rfl, ?_⟩) (by assumption) ?_
             rotate_left
             · ((intro w hSw; (try dsimp only at hSw); go_simp) <;> with_reducible rfl)
             try simp only [Act.put, List.setIfInBounds_toArray, List.set_cons_zero, List.set_cons_succ]
             refine wpAnyH_take (i := 18) (oi := { dst := some 267, op := Op.fieldAddr 24 (Operand.tmp 12) 3, type := 0, pos := "outright.go:189", after := #[{ on := 12, ground := Ground.guard }], guard := some (12, false) }) (v := ?_) rfl (by kernel_rfl) (by kernel_rfl) (by kernel_rfl) (fun _ _ _ h => h) (Or.inl ⟨by rfl, ?_⟩) (by assumption) ?_
             rotate_left
             · ((intro w hSw; (try dsimp only at hSw); go_simp) <;> with_reducible rfl)
             try simp only [Act.put, List.setIfInBounds_toArray, List.set_cons_zero, List.set_cons_succ]
             refine wpAnyH_take (i := 19) (oi := { dst := some 268, op := Op.load 22 (Operand.tmp 267), type := 22, pos := "outright.go:189", after := #[{ on := 18, ground := Ground.data }, { on := 12, ground := Ground.guard }], guard := some (12, false) }) (v := ?_) rfl (by kernel_rfl) (by kernel_rfl) (by kernel_rfl) (fun _ _ _ h => h) (Or.inl ⟨by rfl, ?_⟩) (by assumption) ?_
             rotate_left
             · ((intro w hSw; (try dsimp only at hSw); go_simp) <;> with_reducible rfl)
             try simp only [Act.put, List.setIfInBounds_toArray, List.set_cons_zero, List.set_cons_succ]
             refine wpAnyH_take (i := 20) (oi := { dst := some 269, op := Op.move (Operand.tmp 31), type := 3, pos := "outright.go:189", after := #[{ on := 12, ground := Ground.guard }], guard := some (12, false) }) (v := ?_) rfl (by kernel_rfl) (by kernel_rfl) (by kernel_rfl) (fun _ _ _ h => h) (Or.inl ⟨by rfl, ?_⟩) (by assumption) ?_
             rotate_left
             · ((intro w hSw; (try dsimp only at hSw); go_simp) <;> with_reducible rfl)
             try simp only [Act.put, List.setIfInBounds_toArray, List.set_cons_zero, List.set_cons_succ]
             refine wpAnyH_take (i := 21) (oi := { dst := some 270, op := Op.indexAddr 22 (Operand.tmp 268) (Operand.tmp 269), type := 0, pos := "outright.go:189", after := #[{ on := 19, ground := Ground.data }, { on := 20, ground := Ground.data }, { on := 12, ground := Ground.guard }], guard := some (12, false) }) (v := ?_) rfl (by kernel_rfl) (by kernel_rfl) (by kernel_rfl) (fun _ _ _ h => h) (Or.inl ⟨by rfl, ?_⟩) (by assumption) ?_
             rotate_left
             · ((intro w hSw; (try dsimp only at hSw); go_simp) <;> with_reducible rfl)
             try simp only [Act.put, List.setIfInBounds_toArray, List.set_cons_zero, List.set_cons_succ]
             refine wpAnyH_take (i := 22) (oi := { dst := some 271, op := Op.load 34 (Operand.tmp 270), type := 34, pos := "outright.go:189", after := #[{ on := 21, ground := Ground.data }, { on := 12, ground := Ground.guard }], guard := some (12, false) }) (v := ?_) rfl (by kernel_rfl) (by kernel_rfl) (by kernel_rfl) (fun _ _ _ h => h) (Or.inl ⟨by rfl, ?_⟩) (by assumption) ?_
             rotate_left
             · ((intro w hSw; (try dsimp only at hSw); go_simp) <;> with_reducible rfl)
             try simp only [Act.put, List.setIfInBounds_toArray, List.set_cons_zero, List.set_cons_succ]
             refine wpAnyH_ready (rs := [23]) (by kernel_rfl) (by simp) ?_
             refine AllReadyH.cons (o := { dst := some 272, op := Op.call { callee := Callee.value (Operand.func 43), args := #[Operand.tmp 266, Operand.tmp 271], argTypes := #[34, 34] }, type := 4, pos := "outright.go:189", after := #[{ on := 17, ground := Ground.data }, { on := 22, ground := Ground.data }, { on := 12, ground := Ground.chain }, { on := 12, ground := Ground.guard }], guard := some (12, false) }) rfl (fun K hK => ?_) AllReadyH.nil
             go_simp
             ((with_reducible refine (HW2.out _ HC.out).mono ?_); rintro e wa ⟨rfl, hba⟩; clear HC t0 t1 t2 t3 t4 t5 t6 t7 t8 t9 t10 t11 t12 t13 t14 t15 t16 t17 t18 t19 t20; have HC := hba; clear hba; obtain ⟨t0, t1, t2, t3, t4, t5, t6, t7, t8, t9, t10, t11, t12, t13, t14, t15, t16, t17, t18, t19, t20⟩ := HSk.out _ HC.out)
             refine hK.out _ _ ?_ (fun hHeld => ?_)
             · (try dsimp only); (refine ⟨?_, ?_, ?_, ?_, ?_, ?_, ?_, ?_, ?_, ?_, ?_, ?_, ?_, ?_, ?_, ?_, ?_, ?_, ?_, ?_, ?_⟩ <;> assumption)
             clear hK K
             try simp only [Act.put, List.setIfInBounds_toArray, List.set_cons_zero, List.set_cons_succ]
             refine wpAnyH_take (i := 24) (oi := { dst := some 273, op := Op.unOp UnOp.not 4 (Operand.tmp 272), type := 4, pos := "outright.go:189", after := #[{ on := 23, ground := Ground.data }, { on := 12, ground := Ground.guard }], guard := some (12, false) }) (v := ?_) rfl (by kernel_rfl) (by kernel_rfl) (by kernel_rfl) (fun _ _ _ h => h) (Or.inl ⟨by rfl, ?_⟩) (by assumption) ?_
             rotate_left
             · ((intro w hSw; (try dsimp only at hSw); go_simp) <;> with_reducible rfl)
             try simp only [Act.put, List.setIfInBounds_toArray, List.set_cons_zero, List.set_cons_succ]
             refine wpAnyH_take (i := 25) (oi := { dst := some 274, op := Op.pick (Operand.tmp 261) (Operand.const (Value.bool true)) (Operand.tmp 273), type := 4, pos := "outright.go:189", after := #[{ on := 12, ground := Ground.data }, { on := 24, ground := Ground.data }], guard := none }) (v := ?_) rfl (by kernel_rfl) (by kernel_rfl) (by kernel_rfl) (fun _ _ _ h => h) (Or.inl ⟨by rfl, ?_⟩) (by assumption) ?_
             rotate_left
             · ((intro w hSw; (try dsimp only at hSw); go_simp) <;> with_reducible rfl)
             try simp only [Act.put, List.setIfInBounds_toArray, List.set_cons_zero, List.set_cons_succ]
             refine wpAnyH_take (i := 26) (oi := { dst := some 275, op := Op.move (Operand.tmp 274), type := 4, pos := "outright.go:189", after := #[{ on := 25, ground := Ground.data }, { on := 23, ground := Ground.chain }], guard := none }) (v := ?_) rfl (by kernel_rfl) (by kernel_rfl) (by kernel_rfl) (fun _ _ _ h => h) (Or.inl ⟨by rfl, ?_⟩) (by assumption) ?_
             rotate_left
             · ((intro w hSw; (try dsimp only at hSw); go_simp) <;> with_reducible rfl)
             try simp only [Act.put, List.setIfInBounds_toArray, List.set_cons_zero, List.set_cons_succ]
             refine wpAnyH_take (i := 27) (oi := { dst := some 276, op := Op.move (Operand.tmp 22), type := 22, pos := "outright.go:189", after := #[{ on := 26, ground := Ground.guard }], guard := some (26, false) }) (v := ?_) rfl (by kernel_rfl) (by kernel_rfl) (by kernel_rfl) (fun _ _ _ h => h) (Or.inl ⟨by rfl, ?_⟩) (by assumption) ?_
             rotate_left
             · ((intro w hSw; (try dsimp only at hSw); go_simp) <;> with_reducible rfl)
             try simp only [Act.put, List.setIfInBounds_toArray, List.set_cons_zero, List.set_cons_succ]
             refine wpAnyH_take (i := 28) (oi := { dst := some 277, op := Op.move (Operand.tmp 31), type := 3, pos := "outright.go:189", after := #[{ on := 26, ground := Ground.guard }], guard := some (26, false) }) (v := ?_) rfl (by kernel_rfl) (by kernel_rfl) (by kernel_rfl) (fun _ _ _ h => h) (Or.inl ⟨by rfl, ?_⟩) (by assumption) ?_
             rotate_left
             · ((intro w hSw; (try dsimp only at hSw); go_simp) <;> with_reducible rfl)
             try simp only [Act.put, List.setIfInBounds_toArray, List.set_cons_zero, List.set_cons_succ]
             refine wpAnyH_take (i := 29) (oi := { dst := some 278, op := Op.indexAddr 22 (Operand.tmp 276) (Operand.tmp 277), type := 0, pos := "outright.go:189", after := #[{ on := 27, ground := Ground.data }, { on := 28, ground := Ground.data }, { on := 26, ground := Ground.guard }], guard := some (26, false) }) (v := ?_) rfl (by kernel_rfl) (by kernel_rfl) (by kernel_rfl) (fun _ _ _ h => h) (Or.inl ⟨by rfl, ?_⟩) (by assumption) ?_
             rotate_left
             · ((intro w hSw; (try dsimp only at hSw); go_simp) <;> with_reducible rfl)
             try simp only [Act.put, List.setIfInBounds_toArray, List.set_cons_zero, List.set_cons_succ]
             refine wpAnyH_take (i := 30) (oi := { dst := some 279, op := Op.load 34 (Operand.tmp 278), type := 34, pos := "outright.go:189", after := #[{ on := 29, ground := Ground.data }, { on := 26, ground := Ground.guard }], guard := some (26, false) }) (v := ?_) rfl (by kernel_rfl) (by kernel_rfl) (by kernel_rfl) (fun _ _ _ h => h) (Or.inl ⟨by rfl, ?_⟩) (by assumption) ?_
             rotate_left
             · ((intro w hSw; (try dsimp only at hSw); go_simp) <;> with_reducible rfl)
             try simp only [Act.put, List.setIfInBounds_toArray, List.set_cons_zero, List.set_cons_succ]
             refine wpAnyH_take (i := 31) (oi := { dst := some 280, op := Op.move (Operand.tmp 21), type := 22, pos := "outright.go:189", after := #[{ on := 26, ground := Ground.guard }], guard := some (26, false) }) (v := ?_) rfl (by kernel_rfl) (by kernel_rfl) (by kernel_rfl) (fun _ _ _ h => h) (Or.inl ⟨by rfl, ?_⟩) (by assumption) ?_
             rotate_left
             · ((intro w hSw; (try dsimp only at hSw); go_simp) <;> with_reducible rfl)
             try simp only [Act.put, List.setIfInBounds_toArray, List.set_cons_zero, List.set_cons_succ]
             as_aux_lemma =>
              refine wpAnyH_take (i := 32) (oi := { dst := some 281, op := Op.move (Operand.tmp 31), type := 3, pos := "outright.go:189", after := #[{ on := 26, ground := Ground.guard }], guard := some (26, false) }) (v := ?_) rfl (by kernel_rfl) (by kernel_rfl) (by kernel_rfl) (fun _ _ _ h => h) (Or.inl ⟨by rfl, ?_⟩) (by assumption) ?_
              rotate_left
              · ((intro w hSw; (try dsimp only at hSw); go_simp) <;> with_reducible rfl)
              try simp only [Act.put, List.setIfInBounds_toArray, List.set_cons_zero, List.set_cons_succ]
              refine wpAnyH_take (i := 33) (oi := { dst := some 282, op := Op.indexAddr 22 (Operand.tmp 280) (Operand.tmp 281), type := 0, pos := "outright.go:189", after := #[{ on := 31, ground := Ground.data }, { on := 32, ground := Ground.data }, { on := 26, ground := Ground.guard }], guard := some (26, false) }) (v := ?_) rfl (by kernel_rfl) (by kernel_rfl) (by kernel_rfl) (fun _ _ _ h => h) (Or.inl ⟨by rfl, ?_⟩) (by assumption) ?_
              rotate_left
              · ((intro w hSw; (try dsimp only at hSw); go_simp) <;> with_reducible rfl)
              try simp only [Act.put, List.setIfInBounds_toArray, List.set_cons_zero, List.set_cons_succ]
              refine wpAnyH_take (i := 34) (oi := { dst := some 283, op := Op.load 34 (Operand.tmp 282), type := 34, pos := "outright.go:189", after := #[{ on := 33, ground := Ground.data }, { on := 26, ground := Ground.guard }], guard := some (26, false) }) (v := ?_) rfl (by kernel_rfl) (by kernel_rfl) (by kernel_rfl) (fun _ _ _ h => h) (Or.inl ⟨by rfl, ?_⟩) (by assumption) ?_
              rotate_left
              · ((intro w hSw; (try dsimp only at hSw); go_simp) <;> with_reducible rfl)
              try simp only [Act.put, List.setIfInBounds_toArray, List.set_cons_zero, List.set_cons_succ]
              refine wpAnyH_ready (rs := [35]) (by kernel_rfl) (by simp) ?_
              refine AllReadyH.cons (o := { dst := some 284, op := Op.call { callee := Callee.value (Operand.func 43), args := #[Operand.tmp 279, Operand.tmp 283], argTypes := #[34, 34] }, type := 4, pos := "outright.go:189", after := #[{ on := 30, ground := Ground.data }, { on := 34, ground := Ground.data }, { on := 26, ground := Ground.chain }, { on := 26, ground := Ground.guard }], guard := some (26, false) }) rfl (fun K hK => ?_) AllReadyH.nil
              go_simp
              ((with_reducible refine (HW3.out _ HC.out).mono ?_); rintro e wa ⟨rfl, hba⟩; clear HC t0 t1 t2 t3 t4 t5 t6 t7 t8 t9 t10 t11 t12 t13 t14 t15 t16 t17 t18 t19 t20; have HC := hba; clear hba; obtain ⟨t0, t1, t2, t3, t4, t5, t6, t7, t8, t9, t10, t11, t12, t13, t14, t15, t16, t17, t18, t19, t20⟩ := HSk.out _ HC.out)
              refine hK.out _ _ ?_ (fun hHeld => ?_)
              · (try dsimp only); (refine ⟨?_, ?_, ?_, ?_, ?_, ?_, ?_, ?_, ?_, ?_, ?_, ?_, ?_, ?_, ?_, ?_, ?_, ?_, ?_, ?_, ?_⟩ <;> assumption)
              clear hK K
              try simp only [Act.put, List.setIfInBounds_toArray, List.set_cons_zero, List.set_cons_succ]
              refine wpAnyH_take (i := 36) (oi := { dst := some 285, op := Op.unOp UnOp.not 4 (Operand.tmp 284), type := 4, pos := "outright.go:189", after := #[{ on := 35, ground := Ground.data }, { on := 26, ground := Ground.guard }], guard := some (26, false) }) (v := ?_) rfl (by kernel_rfl) (by kernel_rfl) (by kernel_rfl) (fun _ _ _ h => h) (Or.inl ⟨by rfl, ?_⟩) (by assumption) ?_
              rotate_left
              · ((intro w hSw; (try dsimp only at hSw); go_simp) <;> with_reducible rfl)
              try simp only [Act.put, List.setIfInBounds_toArray, List.set_cons_zero, List.set_cons_succ]
              refine wpAnyH_take (i := 37) (oi := { dst := some 286, op := Op.pick (Operand.tmp 275) (Operand.const (Value.bool true)) (Operand.tmp 285), type := 4, pos := "outright.go:189", after := #[{ on := 26, ground := Ground.data }, { on := 36, ground := Ground.data }], guard := none }) (v := ?_) rfl (by kernel_rfl) (by kernel_rfl) (by kernel_rfl) (fun _ _ _ h => h) (Or.inl ⟨by rfl, ?_⟩) (by assumption) ?_
              rotate_left
              · ((intro w hSw; (try dsimp only at hSw); go_simp) <;> with_reducible rfl)
              try simp only [Act.put, List.setIfInBounds_toArray, List.set_cons_zero, List.set_cons_succ]
              refine wpAnyH_take (i := 38) (oi := { dst := some 287, op := Op.move (Operand.tmp 286), type := 4, pos := "outright.go:189", after := #[{ on := 37, ground := Ground.data }, { on := 35, ground := Ground.chain }], guard := none }) (v := ?_) rfl (by kernel_rfl) (by kernel_rfl) (by kernel_rfl) (fun _ _ _ h => h) (Or.inl ⟨by rfl, ?_⟩) (by assumption) ?_
              rotate_left
              · ((intro w hSw; (try dsimp only at hSw); go_simp) <;> with_reducible rfl)
              try simp only [Act.put, List.setIfInBounds_toArray, List.set_cons_zero, List.set_cons_succ]
              refine wpAnyH_take (i := 39) (oi := { dst := some 288, op := Op.move (Operand.tmp 24), type := 22, pos := "outright.go:189", after := #[{ on := 38, ground := Ground.guard }], guard := some (38, false) }) (v := ?_) rfl (by kernel_rfl) (by kernel_rfl) (by kernel_rfl) (fun _ _ _ h => h) (Or.inl ⟨by rfl, ?_⟩) (by assumption) ?_
              rotate_left
              · ((intro w hSw; (try dsimp only at hSw); go_simp) <;> with_reducible rfl)
              try simp only [Act.put, List.setIfInBounds_toArray, List.set_cons_zero, List.set_cons_succ]
              refine wpAnyH_take (i := 40) (oi := { dst := some 289, op := Op.move (Operand.tmp 31), type := 3, pos := "outright.go:189", after := #[{ on := 38, ground := Ground.guard }], guard := some (38, false) }) (v := ?_) rfl (by kernel_rfl) (by kernel_rfl) (by kernel_rfl) (fun _ _ _ h => h) (Or.inl ⟨by rfl, ?_⟩) (by assumption) ?_
              rotate_left
              · ((intro w hSw; (try dsimp only at hSw); go_simp) <;> with_reducible rfl)
              try simp only [Act.put, List.setIfInBounds_toArray, List.set_cons_zero, List.set_cons_succ]
              refine wpAnyH_take (i := 41) (oi := { dst := some 290, op := Op.indexAddr 22 (Operand.tmp 288) (Operand.tmp 289), type := 0, pos := "outright.go:189", after := #[{ on := 39, ground := Ground.data }, { on := 40, ground := Ground.data }, { on := 38, ground := Ground.guard }], guard := some (38, false) }) (v := ?_) rfl (by kernel_rfl) (by kernel_rfl) (by kernel_rfl) (fun _ _ _ h => h) (Or.inl ⟨by rfl, ?_⟩) (by assumption) ?_
              rotate_left
              · ((intro w hSw; (try dsimp only at hSw); go_simp) <;> with_reducible rfl)
              try simp only [Act.put, List.setIfInBounds_toArray, List.set_cons_zero, List.set_cons_succ]
              refine wpAnyH_take (i := 42) (oi := { dst := some 291, op := Op.load 34 (Operand.tmp 290), type := 34, pos := "outright.go:189", after := #[{ on := 41, ground := Ground.data }, { on := 38, ground := Ground.guard }], guard := some (38, false) }) (v := ?_) rfl (by kernel_rfl) (by kernel_rfl) (by kernel_rfl) (fun _ _ _ h => h) (Or.inl ⟨by rfl, ?_⟩) (by assumption) ?_
              rotate_left
              · ((intro w hSw; (try dsimp only at hSw); go_simp) <;> with_reducible rfl)
              try simp only [Act.put, List.setIfInBounds_toArray, List.set_cons_zero, List.set_cons_succ]
              refine wpAnyH_take (i := 43) (oi := { dst := some 292, op := Op.move (Operand.tmp 23), type := 22, pos := "outright.go:189", after := #[{ on := 38, ground := Ground.guard }], guard := some (38, false) }) (v := ?_) rfl (by kernel_rfl) (by kernel_rfl) (by kernel_rfl) (fun _ _ _ h => h) (Or.inl ⟨by rfl, ?_⟩) (by assumption) ?_
              rotate_left
              · ((intro w hSw; (try dsimp only at hSw); go_simp) <;> with_reducible rfl)
              try simp only [Act.put, List.setIfInBounds_toArray, List.set_cons_zero, List.set_cons_succ]
              refine wpAnyH_take (i := 44) (oi := { dst := some 293, op := Op.move (Operand.tmp 31), type := 3, pos := "outright.go:189", after := #[{ on := 38, ground := Ground.guard }], guard := some (38, false) }) (v := ?_) rfl (by kernel_rfl) (by kernel_rfl) (by kernel_rfl) (fun _ _ _ h => h) (Or.inl ⟨by rfl, ?_⟩) (by assumption) ?_
              rotate_left
              · ((intro w hSw; (try dsimp only at hSw); go_simp) <;> with_reducible rfl)
              try simp only [Act.put, List.setIfInBounds_toArray, List.set_cons_zero, List.set_cons_succ]
              refine wpAnyH_take (i := 45) (oi := { dst := some 294, op := Op.indexAddr 22 (Operand.tmp 292) (Operand.tmp 293), type := 0, pos := "outright.go:189", after := #[{ on := 43, ground := Ground.data }, { on := 44, ground := Ground.data }, { on := 38, ground := Ground.guard }], guard := some (38, false) }) (v := ?_) rfl (by kernel_rfl) (by kernel_rfl) (by kernel_rfl) (fun _ _ _ h => h) (Or.inl ⟨by rfl, ?_⟩) (by assumption) ?_
              rotate_left
              · ((intro w hSw; (try dsimp only at hSw); go_simp) <;> with_reducible rfl)
              try simp only [Act.put, List.setIfInBounds_toArray, List.set_cons_zero, List.set_cons_succ]
              refine wpAnyH_take (i := 46) (oi := { dst := some 295, op := Op.load 34 (Operand.tmp 294), type := 34, pos := "outright.go:189", after := #[{ on := 45, ground := Ground.data }, { on := 38, ground := Ground.guard }], guard := some (38, false) }) (v := ?_) rfl (by kernel_rfl) (by kernel_rfl) (by kernel_rfl) (fun _ _ _ h => h) (Or.inl ⟨by rfl, ?_⟩) (by assumption) ?_
              rotate_left
              · ((intro w hSw; (try dsimp only at hSw); go_simp) <;> with_reducible rfl)
              try simp only [Act.put, List.setIfInBounds_toArray, List.set_cons_zero, List.set_cons_succ]
              refine wpAnyH_ready (rs := [47]) (by kernel_rfl) (by simp) ?_
              refine AllReadyH.cons (o := { dst := some 296, op := Op.call { callee := Callee.value (Operand.func 43), args := #[Operand.tmp 291, Operand.tmp 295], argTypes := #[34, 34] }, type := 4, pos := "outright.go:189", after := #[{ on := 42, ground := Ground.data }, { on := 46, ground := Ground.data }, { on := 38, ground := Ground.chain }, { on := 38, ground := Ground.guard }], guard := some (38, false) }) rfl (fun K hK => ?_) AllReadyH.nil
              go_simp
              ((with_reducible refine (HW4.out _ HC.out).mono ?_); rintro e wa ⟨rfl, hba⟩; clear HC t0 t1 t2 t3 t4 t5 t6 t7 t8 t9 t10 t11 t12 t13 t14 t15 t16 t17 t18 t19 t20; have HC := hba; clear hba; obtain ⟨t0, t1, t2, t3, t4, t5, t6, t7, t8, t9, t10, t11, t12, t13, t14, t15, t16, t17, t18, t19, t20⟩ := HSk.out _ HC.out)
              refine hK.out _ _ ?_ (fun hHeld => ?_)
              · (try dsimp only); (refine ⟨?_, ?_, ?_, ?_, ?_, ?_, ?_, ?_, ?_, ?_, ?_, ?_, ?_, ?_, ?_, ?_, ?_, ?_, ?_, ?_, ?_⟩ <;> assumption)
              clear hK K
              try simp only [Act.put, List.setIfInBounds_toArray, List.set_cons_zero, List.set_cons_succ]
              as_aux_lemma =>
               refine wpAnyH_take (i := 48) (oi := { dst := some 297, op := Op.unOp UnOp.not 4 (Operand.tmp 296), type := 4, pos := "outright.go:189", after := #[{ on := 47, ground := Ground.data }, { on := 38, ground := Ground.guard }], guard := some (38, false) }) (v := ?_) rfl (by kernel_rfl) (by kernel_rfl) (by kernel_rfl) (fun _ _ _ h => h) (Or.inl ⟨by rfl, ?_⟩) (by assumption) ?_
               rotate_left
               · ((intro w hSw; (try dsimp only at hSw); go_simp) <;> with_reducible rfl)
               try simp only [Act.put, List.setIfInBounds_toArray, List.set_cons_zero, List.set_cons_succ]
               refine wpAnyH_take (i := 49) (oi := { dst := some 298, op := Op.pick (Operand.tmp 287) (Operand.const (Value.bool true)) (Operand.tmp 297), type := 4, pos := "outright.go:189", after := #[{ on := 38, ground := Ground.data }, { on := 48, ground := Ground.data }], guard := none }) (v := ?_) rfl (by kernel_rfl) (by kernel_rfl) (by kernel_rfl) (fun _ _ _ h => h) (Or.inl ⟨by rfl, ?_⟩) (by assumption) ?_
               rotate_left
               · ((intro w hSw; (try dsimp only at hSw); go_simp) <;> with_reducible rfl)
               try simp only [Act.put, List.setIfInBounds_toArray, List.set_cons_zero, List.set_cons_succ]
               rcases cases5 with rfl | ⟨rfl, rfl⟩
               ·
                 refine wpAnyH_take (i := 50) (oi := { dst := some 299, op := Op.move (Operand.tmp 298), type := 4, pos := "outright.go:189", after := #[{ on := 49, ground := Ground.data }, { on := 47, ground := Ground.chain }], guard := none }) (v := ?_) rfl (by kernel_rfl) (by kernel_rfl) (by kernel_rfl) (fun _ _ _ h => h) (Or.inl ⟨by rfl, ?_⟩) (by assumption) ?_
                 rotate_left
                 · ((intro w hSw; (try dsimp only at hSw); go_simp) <;> with_reducible rfl)
                 try simp only [Act.put, List.setIfInBounds_toArray, List.set_cons_zero, List.set_cons_succ]
                 refine wpAnyH_take (i := 51) (oi := { dst := some 300, op := Op.move (Operand.tmp 25), type := 39, pos := "outright.go:189", after := #[{ on := 50, ground := Ground.guard }], guard := some (50, false) }) (v := ?_) rfl (by kernel_rfl) (by kernel_rfl) (by kernel_rfl) (fun _ _ _ h => h) (Or.inl ⟨by rfl, ?_⟩) (by assumption) ?_
                 rotate_left
                 · ((intro w hSw; (try dsimp only at hSw); go_simp) <;> with_reducible rfl)
                 try simp only [Act.put, List.setIfInBounds_toArray, List.set_cons_zero, List.set_cons_succ]
                 refine wpAnyH_take (i := 52) (oi := { dst := some 301, op := Op.move (Operand.tmp 31), type := 3, pos := "outright.go:189", after := #[{ on := 50, ground := Ground.guard }], guard := some (50, false) }) (v := ?_) rfl (by kernel_rfl) (by kernel_rfl) (by kernel_rfl) (fun _ _ _ h => h) (Or.inl ⟨by rfl, ?_⟩) (by assumption) ?_
                 rotate_left
                 · ((intro w hSw; (try dsimp only at hSw); go_simp) <;> with_reducible rfl)
                 try simp only [Act.put, List.setIfInBounds_toArray, List.set_cons_zero, List.set_cons_succ]
                 refine wpAnyH_take (i := 53) (oi := { dst := some 302, op := Op.indexAddr 39 (Operand.tmp 300) (Operand.tmp 301), type := 0, pos := "outright.go:189", after := #[{ on := 51, ground := Ground.data }, { on := 52, ground := Ground.data }, { on := 50, ground := Ground.guard }], guard := some (50, false) }) (v := ?_) rfl (by kernel_rfl) (by kernel_rfl) (by kernel_rfl) (fun _ _ _ h => h) (Or.inl ⟨by rfl, ?_⟩) (by assumption) ?_
                 rotate_left
                 · ((intro w hSw; (try dsimp only at hSw); go_simp) <;> with_reducible rfl)
                 try simp only [Act.put, List.setIfInBounds_toArray, List.set_cons_zero, List.set_cons_succ]
                 refine wpAnyH_take (i := 54) (oi := { dst := some 303, op := Op.load 4 (Operand.tmp 302), type := 4, pos := "outright.go:189", after := #[{ on := 53, ground := Ground.data }, { on := 50, ground := Ground.guard }], guard := some (50, false) }) (v := ?_) rfl (by kernel_rfl) (by kernel_rfl) (by kernel_rfl) (fun _ _ _ h => h) (Or.inl ⟨by rfl, ?_⟩) (by assumption) ?_
                 rotate_left
                 · ((intro w hSw; (try dsimp only at hSw); go_simp) <;> with_reducible rfl)
                 try simp only [Act.put, List.setIfInBounds_toArray, List.set_cons_zero, List.set_cons_succ]
                 refine wpAnyH_take (i := 55) (oi := { dst := some 304, op := Op.move (Operand.tmp 303), type := 4, pos := "outright.go:189", after := #[{ on := 54, ground := Ground.data }, { on := 50, ground := Ground.chain }, { on := 50, ground := Ground.guard }], guard := some (50, false) }) (v := ?_) rfl (by kernel_rfl) (by kernel_rfl) (by kernel_rfl) (fun _ _ _ h => h) (Or.inl ⟨by rfl, ?_⟩) (by assumption) ?_
                 rotate_left
                 · ((intro w hSw; (try dsimp only at hSw); go_simp) <;> with_reducible rfl)
                 try simp only [Act.put, List.setIfInBounds_toArray, List.set_cons_zero, List.set_cons_succ]
                 refine wpAnyH_take (i := 56) (oi := { dst := some 305, op := Op.move (Operand.tmp 28), type := 39, pos := "outright.go:189", after := #[{ on := 55, ground := Ground.guard }], guard := some (55, true) }) (v := undef) rfl (by kernel_rfl) (by kernel_rfl) (by kernel_rfl) (fun _ _ _ h => h) (Or.inr ⟨by rfl, rfl⟩) (by assumption) ?_
                 try simp only [Act.put, List.setIfInBounds_toArray, List.set_cons_zero, List.set_cons_succ]
                 refine wpAnyH_take (i := 57) (oi := { dst := some 306, op := Op.move (Operand.tmp 31), type := 3, pos := "outright.go:189", after := #[{ on := 55, ground := Ground.guard }], guard := some (55, true) }) (v := undef) rfl (by kernel_rfl) (by kernel_rfl) (by kernel_rfl) (fun _ _ _ h => h) (Or.inr ⟨by rfl, rfl⟩) (by assumption) ?_
                 try simp only [Act.put, List.setIfInBounds_toArray, List.set_cons_zero, List.set_cons_succ]
                 refine wpAnyH_take (i := 58) (oi := { dst := some 307, op := Op.indexAddr 39 (Operand.tmp 305) (Operand.tmp 306), type := 0, pos := "outright.go:189", after := #[{ on := 56, ground := Ground.data }, { on := 57, ground := Ground.data }, { on := 55, ground := Ground.guard }], guard := some (55, true) }) (v := undef) rfl (by kernel_rfl) (by kernel_rfl) (by kernel_rfl) (fun _ _ _ h => h) (Or.inr ⟨by rfl, rfl⟩) (by assumption) ?_
                 try simp only [Act.put, List.setIfInBounds_toArray, List.set_cons_zero, List.set_cons_succ]
                 refine wpAnyH_take (i := 59) (oi := { dst := some 308, op := Op.load 4 (Operand.tmp 307), type := 4, pos := "outright.go:189", after := #[{ on := 58, ground := Ground.data }, { on := 55, ground := Ground.guard }], guard := some (55, true) }) (v := undef) rfl (by kernel_rfl) (by kernel_rfl) (by kernel_rfl) (fun _ _ _ h => h) (Or.inr ⟨by rfl, rfl⟩) (by assumption) ?_
                 try simp only [Act.put, List.setIfInBounds_toArray, List.set_cons_zero, List.set_cons_succ]
                 refine wpAnyH_take (i := 60) (oi := { dst := some 309, op := Op.unOp UnOp.not 4 (Operand.tmp 308), type := 4, pos := "outright.go:189", after := #[{ on := 59, ground := Ground.data }, { on := 55, ground := Ground.guard }], guard := some (55, true) }) (v := undef) rfl (by kernel_rfl) (by kernel_rfl) (by kernel_rfl) (fun _ _ _ h => h) (Or.inr ⟨by rfl, rfl⟩) (by assumption) ?_
                 try simp only [Act.put, List.setIfInBounds_toArray, List.set_cons_zero, List.set_cons_succ]
                 refine wpAnyH_take (i := 61) (oi := { dst := some 310, op := Op.pick (Operand.tmp 304) (Operand.tmp 309) (Operand.const (Value.bool false)), type := 4, pos := "outright.go:189", after := #[{ on := 55, ground := Ground.data }, { on := 60, ground := Ground.data }, { on := 50, ground := Ground.guard }], guard := some (50, false) }) (v := ?_) rfl (by kernel_rfl) (by kernel_rfl) (by kernel_rfl) (fun _ _ _ h => h) (Or.inl ⟨by rfl, ?_⟩) (by assumption) ?_
                 rotate_left
                 · ((intro w hSw; (try dsimp only at hSw); go_simp) <;> with_reducible rfl)
                 try simp only [Act.put, List.setIfInBounds_toArray, List.set_cons_zero, List.set_cons_succ]
                 refine wpAnyH_take (i := 62) (oi := { dst := some 311, op := Op.pick (Operand.tmp 299) (Operand.const (Value.bool true)) (Operand.tmp 310), type := 4, pos := "outright.go:189", after := #[{ on := 50, ground := Ground.data }, { on := 61, ground := Ground.data }], guard := none }) (v := ?_) rfl (by kernel_rfl) (by kernel_rfl) (by kernel_rfl) (fun _ _ _ h => h) (Or.inl ⟨by rfl, ?_⟩) (by assumption) ?_
                 rotate_left
                 · ((intro w hSw; (try dsimp only at hSw); go_simp) <;> with_reducible rfl)
                 try simp only [Act.put, List.setIfInBounds_toArray, List.set_cons_zero, List.set_cons_succ]
                 rcases cases6 with rfl | ⟨rfl, rfl⟩
                 ·
                   refine wpAnyH_take (i := 63) (oi := { dst := some 312, op := Op.move (Operand.tmp 311), type := 4, pos := "outright.go:189", after := #[{ on := 62, ground := Ground.data }, { on := 55, ground := Ground.chain }], guard := none }) (v := ?_) rfl (by kernel_rfl) (by kernel_rfl) (by kernel_rfl) (fun _ _ _ h => h) (Or.inl ⟨by rfl, ?_⟩) (by assumption) ?_
                   rotate_left
                   · ((intro w hSw; (try dsimp only at hSw); go_simp) <;> with_reducible rfl)
                   try simp only [Act.put, List.setIfInBounds_toArray, List.set_cons_zero, List.set_cons_succ]
                   refine wpAnyH_take (i := 64) (oi := { dst := some 313, op := Op.move (Operand.tmp 29), type := 39, pos := "outright.go:189", after := #[{ on := 63, ground := Ground.guard }], guard := some (63, false) }) (v := ?_) rfl (by kernel_rfl) (by kernel_rfl) (by kernel_rfl) (fun _ _ _ h => h) (Or.inl ⟨by rfl, ?_⟩) (by assumption) ?_
                   rotate_left
                   · ((intro w hSw; (try dsimp only at hSw); go_simp) <;> with_reducible rfl)
                   try simp only [Act.put, List.setIfInBounds_toArray, List.set_cons_zero, List.set_cons_succ]
                   refine wpAnyH_take (i := 65) (oi := { dst := some 314, op := Op.move (Operand.tmp 31), type := 3, pos := "outright.go:189", after := #[{ on := 63, ground := Ground.guard }], guard := some (63, false) }) (v := ?_) rfl (by kernel_rfl) (by kernel_rfl) (by kernel_rfl) (fun _ _ _ h => h) (Or.inl ⟨by rfl, ?_⟩) (by assumption) ?_
                   rotate_left
                   · ((intro w hSw; (try dsimp only at hSw); go_simp) <;> with_reducible rfl)
                   try simp only [Act.put, List.setIfInBounds_toArray, List.set_cons_zero, List.set_cons_succ]
                   refine wpAnyH_take (i := 66) (oi := { dst := some 315, op := Op.indexAddr 39 (Operand.tmp 313) (Operand.tmp 314), type := 0, pos := "outright.go:189", after := #[{ on := 64, ground := Ground.data }, { on := 65, ground := Ground.data }, { on := 63, ground := Ground.guard }], guard := some (63, false) }) (v := ?_) rfl (by kernel_rfl) (by kernel_rfl) (by kernel_rfl) (fun _ _ _ h => h) (Or.inl ⟨by rfl, ?_⟩) (by assumption) ?_
                   rotate_left
                   · ((intro w hSw; (try dsimp only at hSw); go_simp) <;> with_reducible rfl)
                   try simp only [Act.put, List.setIfInBounds_toArray, List.set_cons_zero, List.set_cons_succ]
                   refine wpAnyH_take (i := 67) (oi := { dst := some 316, op := Op.load 4 (Operand.tmp 315), type := 4, pos := "outright.go:189", after := #[{ on := 66, ground := Ground.data }, { on := 63, ground := Ground.guard }], guard := some (63, false) }) (v := ?_) rfl (by kernel_rfl) (by kernel_rfl) (by kernel_rfl) (fun _ _ _ h => h) (Or.inl ⟨by rfl, ?_⟩) (by assumption) ?_
                   rotate_left
                   · ((intro w hSw; (try dsimp only at hSw); go_simp) <;> with_reducible rfl)
                   try simp only [Act.put, List.setIfInBounds_toArray, List.set_cons_zero, List.set_cons_succ]
                   refine wpAnyH_take (i := 68) (oi := { dst := some 317, op := Op.move (Operand.tmp 316), type := 4, pos := "outright.go:189", after := #[{ on := 67, ground := Ground.data }, { on := 63, ground := Ground.chain }, { on := 63, ground := Ground.guard }], guard := some (63, false) }) (v := ?_) rfl (by kernel_rfl) (by kernel_rfl) (by kernel_rfl) (fun _ _ _ h => h) (Or.inl ⟨by rfl, ?_⟩) (by assumption) ?_
                   rotate_left
                   · ((intro w hSw; (try dsimp only at hSw); go_simp) <;> with_reducible rfl)
                   try simp only [Act.put, List.setIfInBounds_toArray, List.set_cons_zero, List.set_cons_succ]
                   refine wpAnyH_take (i := 69) (oi := { dst := some 318, op := Op.move (Operand.tmp 26), type := 39, pos := "outright.go:189", after := #[{ on := 68, ground := Ground.guard }], guard := some (68, true) }) (v := undef) rfl (by kernel_rfl) (by kernel_rfl) (by kernel_rfl) (fun _ _ _ h => h) (Or.inr ⟨by rfl, rfl⟩) (by assumption) ?_
                   try simp only [Act.put, List.setIfInBounds_toArray, List.set_cons_zero, List.set_cons_succ]
                   refine wpAnyH_take (i := 70) (oi := { dst := some 319, op := Op.move (Operand.tmp 31), type := 3, pos := "outright.go:189", after := #[{ on := 68, ground := Ground.guard }], guard := some (68, true) }) (v := undef) rfl (by kernel_rfl) (by kernel_rfl) (by kernel_rfl) (fun _ _ _ h => h) (Or.inr ⟨by rfl, rfl⟩) (by assumption) ?_
                   try simp only [Act.put, List.setIfInBounds_toArray, List.set_cons_zero, List.set_cons_succ]
                   refine wpAnyH_take (i := 71) (oi := { dst := some 320, op := Op.indexAddr 39 (Operand.tmp 318) (Operand.tmp 319), type := 0, pos := "outright.go:189", after := #[{ on := 69, ground := Ground.data }, { on := 70, ground := Ground.data }, { on := 68, ground := Ground.guard }], guard := some (68, true) }) (v := undef) rfl (by kernel_rfl) (by kernel_rfl) (by kernel_rfl) (fun _ _ _ h => h) (Or.inr ⟨by rfl, rfl⟩) (by assumption) ?_
                   try simp only [Act.put, List.setIfInBounds_toArray, List.set_cons_zero, List.set_cons_succ]
                   refine wpAnyH_take (i := 72) (oi := { dst := some 321, op := Op.load 4 (Operand.tmp 320), type := 4, pos := "outright.go:189", after := #[{ on := 71, ground := Ground.data }, { on := 68, ground := Ground.guard }], guard := some (68, true) }) (v := undef) rfl (by kernel_rfl) (by kernel_rfl) (by kernel_rfl) (fun _ _ _ h => h) (Or.inr ⟨by rfl, rfl⟩) (by assumption) ?_
                   try simp only [Act.put, List.setIfInBounds_toArray, List.set_cons_zero, List.set_cons_succ]
                   refine wpAnyH_take (i := 73) (oi := { dst := some 322, op := Op.unOp UnOp.not 4 (Operand.tmp 321), type := 4, pos := "outright.go:189", after := #[{ on := 72, ground := Ground.data }, { on := 68, ground := Ground.guard }], guard := some (68, true) }) (v := undef) rfl (by kernel_rfl) (by kernel_rfl) (by kernel_rfl) (fun _ _ _ h => h) (Or.inr ⟨by rfl, rfl⟩) (by assumption) ?_
                   try simp only [Act.put, List.setIfInBounds_toArray, List.set_cons_zero, List.set_cons_succ]
                   refine wpAnyH_take (i := 74) (oi := { dst := some 323, op := Op.pick (Operand.tmp 317) (Operand.tmp 322) (Operand.const (Value.bool false)), type := 4, pos := "outright.go:189", after := #[{ on := 68, ground := Ground.data }, { on := 73, ground := Ground.data }, { on := 63, ground := Ground.guard }], guard := some (63, false) }) (v := ?_) rfl (by kernel_rfl) (by kernel_rfl) (by kernel_rfl) (fun _ _ _ h => h) (Or.inl ⟨by rfl, ?_⟩) (by assumption) ?_
                   rotate_left
                   · ((intro w hSw; (try dsimp only at hSw); go_simp) <;> with_reducible rfl)
                   try simp only [Act.put, List.setIfInBounds_toArray, List.set_cons_zero, List.set_cons_succ]
                   refine wpAnyH_take (i := 75) (oi := { dst := some 324, op := Op.pick (Operand.tmp 312) (Operand.const (Value.bool true)) (Operand.tmp 323), type := 4, pos := "outright.go:189", after := #[{ on := 63, ground := Ground.data }, { on := 74, ground := Ground.data }], guard := none }) (v := ?_) rfl (by kernel_rfl) (by kernel_rfl) (by kernel_rfl) (fun _ _ _ h => h) (Or.inl ⟨by rfl, ?_⟩) (by assumption) ?_
                   rotate_left
                   · ((intro w hSw; (try dsimp only at hSw); go_simp) <;> with_reducible rfl)
                   try simp only [Act.put, List.setIfInBounds_toArray, List.set_cons_zero, List.set_cons_succ]
                   refine wpAnyH_done (by kernel_rfl) ?_ _
                   refine NoPanic.normal ?_
                   go_wp2_with fail
                   go_meet
                   exact ⟨rfl, HC.out⟩
                 ·
                   refine wpAnyH_take (i := 63) (oi := { dst := some 312, op := Op.move (Operand.tmp 311), type := 4, pos := "outright.go:189", after := #[{ on := 62, ground := Ground.data }, { on := 55, ground := Ground.chain }], guard := none }) (v := ?_) rfl (by kernel_rfl) (by kernel_rfl) (by kernel_rfl) (fun _ _ _ h => h) (Or.inl ⟨by rfl, ?_⟩) (by assumption) ?_
                   rotate_left
                   · ((intro w hSw; (try dsimp only at hSw); go_simp) <;> with_reducible rfl)
                   try simp only [Act.put, List.setIfInBounds_toArray, List.set_cons_zero, List.set_cons_succ]
                   refine wpAnyH_take (i := 64) (oi := { dst := some 313, op := Op.move (Operand.tmp 29), type := 39, pos := "outright.go:189", after := #[{ on := 63, ground := Ground.guard }], guard := some (63, false) }) (v := ?_) rfl (by kernel_rfl) (by kernel_rfl) (by kernel_rfl) (fun _ _ _ h => h) (Or.inl ⟨by rfl, ?_⟩) (by assumption) ?_
                   rotate_left
                   · ((intro w hSw; (try dsimp only at hSw); go_simp) <;> with_reducible rfl)
                   try simp only [Act.put, List.setIfInBounds_toArray, List.set_cons_zero, List.set_cons_succ]
                   refine wpAnyH_take (i := 65) (oi := { dst := some 314, op := Op.move (Operand.tmp 31), type := 3, pos := "outright.go:189", after := #[{ on := 63, ground := Ground.guard }], guard := some (63, false) }) (v := ?_) rfl (by kernel_rfl) (by kernel_rfl) (by kernel_rfl) (fun _ _ _ h => h) (Or.inl ⟨by rfl, ?_⟩) (by assumption) ?_
                   rotate_left
                   · ((intro w hSw; (try dsimp only at hSw); go_simp) <;> with_reducible rfl)
                   try simp only [Act.put, List.setIfInBounds_toArray, List.set_cons_zero, List.set_cons_succ]
                   refine wpAnyH_take (i := 66) (oi := { dst := some 315, op := Op.indexAddr 39 (Operand.tmp 313) (Operand.tmp 314), type := 0, pos := "outright.go:189", after := #[{ on := 64, ground := Ground.data }, { on := 65, ground := Ground.data }, { on := 63, ground := Ground.guard }], guard := some (63, false) }) (v := ?_) rfl (by kernel_rfl) (by kernel_rfl) (by kernel_rfl) (fun _ _ _ h => h) (Or.inl ⟨by rfl, ?_⟩) (by assumption) ?_
                   rotate_left
                   · ((intro w hSw; (try dsimp only at hSw); go_simp) <;> with_reducible rfl)
                   try simp only [Act.put, List.setIfInBounds_toArray, List.set_cons_zero, List.set_cons_succ]
                   refine wpAnyH_take (i := 67) (oi := { dst := some 316, op := Op.load 4 (Operand.tmp 315), type := 4, pos := "outright.go:189", after := #[{ on := 66, ground := Ground.data }, { on := 63, ground := Ground.guard }], guard := some (63, false) }) (v := ?_) rfl (by kernel_rfl) (by kernel_rfl) (by kernel_rfl) (fun _ _ _ h => h) (Or.inl ⟨by rfl, ?_⟩) (by assumption) ?_
                   rotate_left
                   · ((intro w hSw; (try dsimp only at hSw); go_simp) <;> with_reducible rfl)
                   try simp only [Act.put, List.setIfInBounds_toArray, List.set_cons_zero, List.set_cons_succ]
                   refine wpAnyH_take (i := 68) (oi := { dst := some 317, op := Op.move (Operand.tmp 316), type := 4, pos := "outright.go:189", after := #[{ on := 67, ground := Ground.data }, { on := 63, ground := Ground.chain }, { on := 63, ground := Ground.guard }], guard := some (63, false) }) (v := ?_) rfl (by kernel_rfl) (by kernel_rfl) (by kernel_rfl) (fun _ _ _ h => h) (Or.inl ⟨by rfl, ?_⟩) (by assumption) ?_
                   rotate_left
                   · ((intro w hSw; (try dsimp only at hSw); go_simp) <;> with_reducible rfl)
                   try simp only [Act.put, List.setIfInBounds_toArray, List.set_cons_zero, List.set_cons_succ]
                   refine wpAnyH_take (i := 69) (oi := { dst := some 318, op := Op.move (Operand.tmp 26), type := 39, pos := "outright.go:189", after := #[{ on := 68, ground := Ground.guard }], guard := some (68, true) }) (v := ?_) rfl (by kernel_rfl) (by kernel_rfl) (by kernel_rfl) (fun _ _ _ h => h) (Or.inl ⟨by rfl, ?_⟩) (by assumption) ?_
                   rotate_left
                   · ((intro w hSw; (try dsimp only at hSw); go_simp) <;> with_reducible rfl)
                   try simp only [Act.put, List.setIfInBounds_toArray, List.set_cons_zero, List.set_cons_succ]
                   refine wpAnyH_take (i := 70) (oi := { dst := some 319, op := Op.move (Operand.tmp 31), type := 3, pos := "outright.go:189", after := #[{ on := 68, ground := Ground.guard }], guard := some (68, true) }) (v := ?_) rfl (by kernel_rfl) (by kernel_rfl) (by kernel_rfl) (fun _ _ _ h => h) (Or.inl ⟨by rfl, ?_⟩) (by assumption) ?_
                   rotate_left
                   · ((intro w hSw; (try dsimp only at hSw); go_simp) <;> with_reducible rfl)
                   try simp only [Act.put, List.setIfInBounds_toArray, List.set_cons_zero, List.set_cons_succ]
                   refine wpAnyH_take (i := 71) (oi := { dst := some 320, op := Op.indexAddr 39 (Operand.tmp 318) (Operand.tmp 319), type := 0, pos := "outright.go:189", after := #[{ on := 69, ground := Ground.data }, { on := 70, ground := Ground.data }, { on := 68, ground := Ground.guard }], guard := some (68, true) }) (v := ?_) rfl (by kernel_rfl) (by kernel_rfl) (by kernel_rfl) (fun _ _ _ h => h) (Or.inl ⟨by rfl, ?_⟩) (by assumption) ?_
                   rotate_left
                   · ((intro w hSw; (try dsimp only at hSw); go_simp) <;> with_reducible rfl)
                   try simp only [Act.put, List.setIfInBounds_toArray, List.set_cons_zero, List.set_cons_succ]
                   refine wpAnyH_take (i := 72) (oi := { dst := some 321, op := Op.load 4 (Operand.tmp 320), type := 4, pos := "outright.go:189", after := #[{ on := 71, ground := Ground.data }, { on := 68, ground := Ground.guard }], guard := some (68, true) }) (v := ?_) rfl (by kernel_rfl) (by kernel_rfl) (by kernel_rfl) (fun _ _ _ h => h) (Or.inl ⟨by rfl, ?_⟩) (by assumption) ?_
                   rotate_left
                   · ((intro w hSw; (try dsimp only at hSw); go_simp) <;> with_reducible rfl)
                   try simp only [Act.put, List.setIfInBounds_toArray, List.set_cons_zero, List.set_cons_succ]
                   refine wpAnyH_take (i := 73) (oi := { dst := some 322, op := Op.unOp UnOp.not 4 (Operand.tmp 321), type := 4, pos := "outright.go:189", after := #[{ on := 72, ground := Ground.data }, { on := 68, ground := Ground.guard }], guard := some (68, true) }) (v := ?_) rfl (by kernel_rfl) (by kernel_rfl) (by kernel_rfl) (fun _ _ _ h => h) (Or.inl ⟨by rfl, ?_⟩) (by assumption) ?_
                   rotate_left
                   · ((intro w hSw; (try dsimp only at hSw); go_simp) <;> with_reducible rfl)
                   try simp only [Act.put, List.setIfInBounds_toArray, List.set_cons_zero, List.set_cons_succ]
                   refine wpAnyH_take (i := 74) (oi := { dst := some 323, op := Op.pick (Operand.tmp 317) (Operand.tmp 322) (Operand.const (Value.bool false)), type := 4, pos := "outright.go:189", after := #[{ on := 68, ground := Ground.data }, { on := 73, ground := Ground.data }, { on := 63, ground := Ground.guard }], guard := some (63, false) }) (v := ?_) rfl (by kernel_rfl) (by kernel_rfl) (by kernel_rfl) (fun _ _ _ h => h) (Or.inl ⟨by rfl, ?_⟩) (by assumption) ?_
                   rotate_left
                   · ((intro w hSw; (try dsimp only at hSw); go_simp) <;> with_reducible rfl)
                   try simp only [Act.put, List.setIfInBounds_toArray, List.set_cons_zero, List.set_cons_succ]
                   refine wpAnyH_take (i := 75) (oi := { dst := some 324, op := Op.pick (Operand.tmp 312) (Operand.const (Value.bool true)) (Operand.tmp 323), type := 4, pos := "outright.go:189", after := #[{ on := 63, ground := Ground.data }, { on := 74, ground := Ground.data }], guard := none }) (v := ?_) rfl (by kernel_rfl) (by kernel_rfl) (by kernel_rfl) (fun _ _ _ h => h) (Or.inl ⟨by rfl, ?_⟩) (by assumption) ?_
                   rotate_left
                   · ((intro w hSw; (try dsimp only at hSw); go_simp) <;> with_reducible rfl)
                   try simp only [Act.put, List.setIfInBounds_toArray, List.set_cons_zero, List.set_cons_succ]
                   refine wpAnyH_done (by kernel_rfl) ?_ _
                   refine NoPanic.normal ?_
                   go_wp2_with fail
                   go_meet
                   exact ⟨rfl, HC.out⟩
               ·
                 refine wpAnyH_take (i := 50) (oi := { dst := some 299, op := Op.move (Operand.tmp 298), type := 4, pos := "outright.go:189", after := #[{ on := 49, ground := Ground.data }, { on := 47, ground := Ground.chain }], guard := none }) (v := ?_) rfl (by kernel_rfl) (by kernel_rfl) (by kernel_rfl) (fun _ _ _ h => h) (Or.inl ⟨by rfl, ?_⟩) (by assumption) ?_
                 rotate_left
                 · ((intro w hSw; (try dsimp only at hSw); go_simp) <;> with_reducible rfl)
                 try simp only [Act.put, List.setIfInBounds_toArray, List.set_cons_zero, List.set_cons_succ]
                 refine wpAnyH_take (i := 51) (oi := { dst := some 300, op := Op.move (Operand.tmp 25), type := 39, pos := "outright.go:189", after := #[{ on := 50, ground := Ground.guard }], guard := some (50, false) }) (v := ?_) rfl (by kernel_rfl) (by kernel_rfl) (by kernel_rfl) (fun _ _ _ h => h) (Or.inl ⟨by rfl, ?_⟩) (by assumption) ?_
                 rotate_left
                 · ((intro w hSw; (try dsimp only at hSw); go_simp) <;> with_reducible rfl)
                 try simp only [Act.put, List.setIfInBounds_toArray, List.set_cons_zero, List.set_cons_succ]
                 refine wpAnyH_take (i := 52) (oi := { dst := some 301, op := Op.move (Operand.tmp 31), type := 3, pos := "outright.go:189", after := #[{ on := 50, ground := Ground.guard }], guard := some (50, false) }) (v := ?_) rfl (by kernel_rfl) (by kernel_rfl) (by kernel_rfl) (fun _ _ _ h => h) (Or.inl ⟨by rfl, ?_⟩) (by assumption) ?_
                 rotate_left
                 · ((intro w hSw; (try dsimp only at hSw); go_simp) <;> with_reducible rfl)
                 try simp only [Act.put, List.setIfInBounds_toArray, List.set_cons_zero, List.set_cons_succ]
                 refine wpAnyH_take (i := 53) (oi := { dst := some 302, op := Op.indexAddr 39 (Operand.tmp 300) (Operand.tmp 301), type := 0, pos := "outright.go:189", after := #[{ on := 51, ground := Ground.data }, { on := 52, ground := Ground.data }, { on := 50, ground := Ground.guard }], guard := some (50, false) }) (v := ?_) rfl (by kernel_rfl) (by kernel_rfl) (by kernel_rfl) (fun _ _ _ h => h) (Or.inl ⟨by rfl, ?_⟩) (by assumption) ?_
                 rotate_left
                 · ((intro w hSw; (try dsimp only at hSw); go_simp) <;> with_reducible rfl)
                 try simp only [Act.put, List.setIfInBounds_toArray, List.set_cons_zero, List.set_cons_succ]
                 refine wpAnyH_take (i := 54) (oi := { dst := some 303, op := Op.load 4 (Operand.tmp 302), type := 4, pos := "outright.go:189", after := #[{ on := 53, ground := Ground.data }, { on := 50, ground := Ground.guard }], guard := some (50, false) }) (v := ?_) rfl (by kernel_rfl) (by kernel_rfl) (by kernel_rfl) (fun _ _ _ h => h) (Or.inl ⟨by rfl, ?_⟩) (by assumption) ?_
                 rotate_left
                 · ((intro w hSw; (try dsimp only at hSw); go_simp) <;> with_reducible rfl)
                 try simp only [Act.put, List.setIfInBounds_toArray, List.set_cons_zero, List.set_cons_succ]
                 refine wpAnyH_take (i := 55) (oi := { dst := some 304, op := Op.move (Operand.tmp 303), type := 4, pos := "outright.go:189", after := #[{ on := 54, ground := Ground.data }, { on := 50, ground := Ground.chain }, { on := 50, ground := Ground.guard }], guard := some (50, false) }) (v := ?_) rfl (by kernel_rfl) (by kernel_rfl) (by kernel_rfl) (fun _ _ _ h => h) (Or.inl ⟨by rfl, ?_⟩) (by assumption) ?_
                 rotate_left
                 · ((intro w hSw; (try dsimp only at hSw); go_simp) <;> with_reducible rfl)
                 try simp only [Act.put, List.setIfInBounds_toArray, List.set_cons_zero, List.set_cons_succ]
                 refine wpAnyH_take (i := 56) (oi := { dst := some 305, op := Op.move (Operand.tmp 28), type := 39, pos := "outright.go:189", after := #[{ on := 55, ground := Ground.guard }], guard := some (55, true) }) (v := ?_) rfl (by kernel_rfl) (by kernel_rfl) (by kernel_rfl) (fun _ _ _ h => h) (Or.inl ⟨by rfl, ?_⟩) (by assumption) ?_
                 rotate_left
                 · ((intro w hSw; (try dsimp only at hSw); go_simp) <;> with_reducible rfl)
                 try simp only [Act.put, List.setIfInBounds_toArray, List.set_cons_zero, List.set_cons_succ]
                 refine wpAnyH_take (i := 57) (oi := { dst := some 306, op := Op.move (Operand.tmp 31), type := 3, pos := "outright.go:189", after := #[{ on := 55, ground := Ground.guard }], guard := some (55, true) }) (v := ?_) rfl (by kernel_rfl) (by kernel_rfl) (by kernel_rfl) (fun _ _ _ h => h) (Or.inl ⟨by rfl, ?_⟩) (by assumption) ?_
                 rotate_left
                 · ((intro w hSw; (try dsimp only at hSw); go_simp) <;> with_reducible rfl)
                 try simp only [Act.put, List.setIfInBounds_toArray, List.set_cons_zero, List.set_cons_succ]
                 refine wpAnyH_take (i := 58) (oi := { dst := some 307, op := Op.indexAddr 39 (Operand.tmp 305) (Operand.tmp 306), type := 0, pos := "outright.go:189", after := #[{ on := 56, ground := Ground.data }, { on := 57, ground := Ground.data }, { on := 55, ground := Ground.guard }], guard := some (55, true) }) (v := ?_) rfl (by kernel_rfl) (by kernel_rfl) (by kernel_rfl) (fun _ _ _ h => h) (Or.inl ⟨by rfl, ?_⟩) (by assumption) ?_
                 rotate_left
                 · ((intro w hSw; (try dsimp only at hSw); go_simp) <;> with_reducible rfl)
                 try simp only [Act.put, List.setIfInBounds_toArray, List.set_cons_zero, List.set_cons_succ]
                 refine wpAnyH_take (i := 59) (oi := { dst := some 308, op := Op.load 4 (Operand.tmp 307), type := 4, pos := "outright.go:189", after := #[{ on := 58, ground := Ground.data }, { on := 55, ground := Ground.guard }], guard := some (55, true) }) (v := ?_) rfl (by kernel_rfl) (by kernel_rfl) (by kernel_rfl) (fun _ _ _ h => h) (Or.inl ⟨by rfl, ?_⟩) (by assumption) ?_
                 rotate_left
                 · ((intro w hSw; (try dsimp only at hSw); go_simp) <;> with_reducible rfl)
                 try simp only [Act.put, List.setIfInBounds_toArray, List.set_cons_zero, List.set_cons_succ]
                 refine wpAnyH_take (i := 60) (oi := { dst := some 309, op := Op.unOp UnOp.not 4 (Operand.tmp 308), type := 4, pos := "outright.go:189", after := #[{ on := 59, ground := Ground.data }, { on := 55, ground := Ground.guard }], guard := some (55, true) }) (v := ?_) rfl (by kernel_rfl) (by kernel_rfl) (by kernel_rfl) (fun _ _ _ h => h) (Or.inl ⟨by rfl, ?_⟩) (by assumption) ?_
                 rotate_left
                 · ((intro w hSw; (try dsimp only at hSw); go_simp) <;> with_reducible rfl)
                 try simp only [Act.put, List.setIfInBounds_toArray, List.set_cons_zero, List.set_cons_succ]
                 refine wpAnyH_take (i := 61) (oi := { dst := some 310, op := Op.pick (Operand.tmp 304) (Operand.tmp 309) (Operand.const (Value.bool false)), type := 4, pos := "outright.go:189", after := #[{ on := 55, ground := Ground.data }, { on := 60, ground := Ground.data }, { on := 50, ground := Ground.guard }], guard := some (50, false) }) (v := ?_) rfl (by kernel_rfl) (by kernel_rfl) (by kernel_rfl) (fun _ _ _ h => h) (Or.inl ⟨by rfl, ?_⟩) (by assumption) ?_
                 rotate_left
                 · ((intro w hSw; (try dsimp only at hSw); go_simp) <;> with_reducible rfl)
                 try simp only [Act.put, List.setIfInBounds_toArray, List.set_cons_zero, List.set_cons_succ]
                 refine wpAnyH_take (i := 62) (oi := { dst := some 311, op := Op.pick (Operand.tmp 299) (Operand.const (Value.bool true)) (Operand.tmp 310), type := 4, pos := "outright.go:189", after := #[{ on := 50, ground := Ground.data }, { on := 61, ground := Ground.data }], guard := none }) (v := ?_) rfl (by kernel_rfl) (by kernel_rfl) (by kernel_rfl) (fun _ _ _ h => h) (Or.inl ⟨by rfl, ?_⟩) (by assumption) ?_
                 rotate_left
                 · ((intro w hSw; (try dsimp only at hSw); go_simp) <;> with_reducible rfl)
                 try simp only [Act.put, List.setIfInBounds_toArray, List.set_cons_zero, List.set_cons_succ]
                 rcases cases6 with rfl | ⟨rfl, rfl⟩
                 ·
                   refine wpAnyH_take (i := 63) (oi := { dst := some 312, op := Op.move (Operand.tmp 311), type := 4, pos := "outright.go:189", after := #[{ on := 62, ground := Ground.data }, { on := 55, ground := Ground.chain }], guard := none }) (v := ?_) rfl (by kernel_rfl) (by kernel_rfl) (by kernel_rfl) (fun _ _ _ h => h) (Or.inl ⟨by rfl, ?_⟩) (by assumption) ?_
                   rotate_left
                   · ((intro w hSw; (try dsimp only at hSw); go_simp) <;> with_reducible rfl)
                   try simp only [Act.put, List.setIfInBounds_toArray, List.set_cons_zero, List.set_cons_succ]
                   refine wpAnyH_take (i := 64) (oi := { dst := some 313, op := Op.move (Operand.tmp 29), type := 39, pos := "outright.go:189", after := #[{ on := 63, ground := Ground.guard }], guard := some (63, false) }) (v := ?_) rfl (by kernel_rfl) (by kernel_rfl) (by kernel_rfl) (fun _ _ _ h => h) (Or.inl ⟨by rfl, ?_⟩) (by assumption) ?_
                   rotate_left
                   · ((intro w hSw; (try dsimp only at hSw); go_simp) <;> with_reducible rfl)
                   try simp only [Act.put, List.setIfInBounds_toArray, List.set_cons_zero, List.set_cons_succ]
                   refine wpAnyH_take (i := 65) (oi := { dst := some 314, op := Op.move (Operand.tmp 31), type := 3, pos := "outright.go:189", after := #[{ on := 63, ground := Ground.guard }], guard := some (63, false) }) (v := ?_) rfl (by kernel_rfl) (by kernel_rfl) (by kernel_rfl) (fun _ _ _ h => h) (Or.inl ⟨by rfl, ?_⟩) (by assumption) ?_
                   rotate_left
                   · ((intro w hSw; (try dsimp only at hSw); go_simp) <;> with_reducible rfl)
                   try simp only [Act.put, List.setIfInBounds_toArray, List.set_cons_zero, List.set_cons_succ]
                   refine wpAnyH_take (i := 66) (oi := { dst := some 315, op := Op.indexAddr 39 (Operand.tmp 313) (Operand.tmp 314), type := 0, pos := "outright.go:189", after := #[{ on := 64, ground := Ground.data }, { on := 65, ground := Ground.data }, { on := 63, ground := Ground.guard }], guard := some (63, false) }) (v := ?_) rfl (by kernel_rfl) (by kernel_rfl) (by kernel_rfl) (fun _ _ _ h => h) (Or.inl ⟨by rfl, ?_⟩) (by assumption) ?_
                   rotate_left
                   · ((intro w hSw; (try dsimp only at hSw); go_simp) <;> with_reducible rfl)
                   try simp only [Act.put, List.setIfInBounds_toArray, List.set_cons_zero, List.set_cons_succ]
                   refine wpAnyH_take (i := 67) (oi := { dst := some 316, op := Op.load 4 (Operand.tmp 315), type := 4, pos := "outright.go:189", after := #[{ on := 66, ground := Ground.data }, { on := 63, ground := Ground.guard }], guard := some (63, false) }) (v := ?_) rfl (by kernel_rfl) (by kernel_rfl) (by kernel_rfl) (fun _ _ _ h => h) (Or.inl ⟨by rfl, ?_⟩) (by assumption) ?_
                   rotate_left
                   · ((intro w hSw; (try dsimp only at hSw); go_simp) <;> with_reducible rfl)
                   try simp only [Act.put, List.setIfInBounds_toArray, List.set_cons_zero, List.set_cons_succ]
                   refine wpAnyH_take (i := 68) (oi := { dst := some 317, op := Op.move (Operand.tmp 316), type := 4, pos := "outright.go:189", after := #[{ on := 67, ground := Ground.data }, { on := 63, ground := Ground.chain }, { on := 63, ground := Ground.guard }], guard := some (63, false) }) (v := ?_) rfl (by kernel_rfl) (by kernel_rfl) (by kernel_rfl) (fun _ _ _ h => h) (Or.inl ⟨by rfl, ?_⟩) (by assumption) ?_
                   rotate_left
                   · ((intro w hSw; (try dsimp only at hSw); go_simp) <;> with_reducible rfl)
                   try simp only [Act.put, List.setIfInBounds_toArray, List.set_cons_zero, List.set_cons_succ]
                   refine wpAnyH_take (i := 69) (oi := { dst := some 318, op := Op.move (Operand.tmp 26), type := 39, pos := "outright.go:189", after := #[{ on := 68, ground := Ground.guard }], guard := some (68, true) }) (v := undef) rfl (by kernel_rfl) (by kernel_rfl) (by kernel_rfl) (fun _ _ _ h => h) (Or.inr ⟨by rfl, rfl⟩) (by assumption) ?_
                   try simp only [Act.put, List.setIfInBounds_toArray, List.set_cons_zero, List.set_cons_succ]
                   refine wpAnyH_take (i := 70) (oi := { dst := some 319, op := Op.move (Operand.tmp 31), type := 3, pos := "outright.go:189", after := #[{ on := 68, ground := Ground.guard }], guard := some (68, true) }) (v := undef) rfl (by kernel_rfl) (by kernel_rfl) (by kernel_rfl) (fun _ _ _ h => h) (Or.inr ⟨by rfl, rfl⟩) (by assumption) ?_
                   try simp only [Act.put, List.setIfInBounds_toArray, List.set_cons_zero, List.set_cons_succ]
                   refine wpAnyH_take (i := 71) (oi := { dst := some 320, op := Op.indexAddr 39 (Operand.tmp 318) (Operand.tmp 319), type := 0, pos := "outright.go:189", after := #[{ on := 69, ground := Ground.data }, { on := 70, ground := Ground.data }, { on := 68, ground := Ground.guard }], guard := some (68, true) }) (v := undef) rfl (by kernel_rfl) (by kernel_rfl) (by kernel_rfl) (fun _ _ _ h => h) (Or.inr ⟨by rfl, rfl⟩) (by assumption) ?_
                   try simp only [Act.put, List.setIfInBounds_toArray, List.set_cons_zero, List.set_cons_succ]
                   refine wpAnyH_take (i := 72) (oi := { dst := some 321, op := Op.load 4 (Operand.tmp 320), type := 4, pos := "outright.go:189", after := #[{ on := 71, ground := Ground.data }, { on := 68, ground := Ground.guard }], guard := some (68, true) }) (v := undef) rfl (by kernel_rfl) (by kernel_rfl) (by kernel_rfl) (fun _ _ _ h => h) (Or.inr ⟨by rfl, rfl⟩) (by assumption) ?_
                   try simp only [Act.put, List.setIfInBounds_toArray, List.set_cons_zero, List.set_cons_succ]
                   refine wpAnyH_take (i := 73) (oi := { dst := some 322, op := Op.unOp UnOp.not 4 (Operand.tmp 321), type := 4, pos := "outright.go:189", after := #[{ on := 72, ground := Ground.data }, { on := 68, ground := Ground.guard }], guard := some (68, true) }) (v := undef) rfl (by kernel_rfl) (by kernel_rfl) (by kernel_rfl) (fun _ _ _ h => h) (Or.inr ⟨by rfl, rfl⟩) (by assumption) ?_
                   try simp only [Act.put, List.setIfInBounds_toArray, List.set_cons_zero, List.set_cons_succ]
                   refine wpAnyH_take (i := 74) (oi := { dst := some 323, op := Op.pick (Operand.tmp 317) (Operand.tmp 322) (Operand.const (Value.bool false)), type := 4, pos := "outright.go:189", after := #[{ on := 68, ground := Ground.data }, { on := 73, ground := Ground.data }, { on := 63, ground := Ground.guard }], guard := some (63, false) }) (v := ?_) rfl (by kernel_rfl) (by kernel_rfl) (by kernel_rfl) (fun _ _ _ h => h) (Or.inl ⟨by rfl, ?_⟩) (by assumption) ?_
                   rotate_left
                   · ((intro w hSw; (try dsimp only at hSw); go_simp) <;> with_reducible rfl)
                   try simp only [Act.put, List.setIfInBounds_toArray, List.set_cons_zero, List.set_cons_succ]
                   refine wpAnyH_take (i := 75) (oi := { dst := some 324, op := Op.pick (Operand.tmp 312) (Operand.const (Value.bool true)) (Operand.tmp 323), type := 4, pos := "outright.go:189", after := #[{ on := 63, ground := Ground.data }, { on := 74, ground := Ground.data }], guard := none }) (v := ?_) rfl (by kernel_rfl) (by kernel_rfl) (by kernel_rfl) (fun _ _ _ h => h) (Or.inl ⟨by rfl, ?_⟩) (by assumption) ?_
                   rotate_left
                   · ((intro w hSw; (try dsimp only at hSw); go_simp) <;> with_reducible rfl)
                   try simp only [Act.put, List.setIfInBounds_toArray, List.set_cons_zero, List.set_cons_succ]
                   refine wpAnyH_done (by kernel_rfl) ?_ _
                   refine NoPanic.normal ?_
                   go_wp2_with fail
                   go_meet
                   exact ⟨rfl, HC.out⟩
                 ·
                   refine wpAnyH_take (i := 63) (oi := { dst := some 312, op := Op.move (Operand.tmp 311), type := 4, pos := "outright.go:189", after := #[{ on := 62, ground := Ground.data }, { on := 55, ground := Ground.chain }], guard := none }) (v := ?_) rfl (by kernel_rfl) (by kernel_rfl) (by kernel_rfl) (fun _ _ _ h => h) (Or.inl ⟨by rfl, ?_⟩) (by assumption) ?_
                   rotate_left
                   · ((intro w hSw; (try dsimp only at hSw); go_simp) <;> with_reducible rfl)
                   try simp only [Act.put, List.setIfInBounds_toArray, List.set_cons_zero, List.set_cons_succ]
                   refine wpAnyH_take (i := 64) (oi := { dst := some 313, op := Op.move (Operand.tmp 29), type := 39, pos := "outright.go:189", after := #[{ on := 63, ground := Ground.guard }], guard := some (63, false) }) (v := ?_) rfl (by kernel_rfl) (by kernel_rfl) (by kernel_rfl) (fun _ _ _ h => h) (Or.inl ⟨by rfl, ?_⟩) (by assumption) ?_
                   rotate_left
                   · ((intro w hSw; (try dsimp only at hSw); go_simp) <;> with_reducible rfl)
                   try simp only [Act.put, List.setIfInBounds_toArray, List.set_cons_zero, List.set_cons_succ]
                   refine wpAnyH_take (i := 65) (oi := { dst := some 314, op := Op.move (Operand.tmp 31), type := 3, pos := "outright.go:189", after := #[{ on := 63, ground := Ground.guard }], guard := some (63, false) }) (v := ?_) rfl (by kernel_rfl) (by kernel_rfl) (by kernel_rfl) (fun _ _ _ h => h) (Or.inl ⟨by rfl, ?_⟩) (by assumption) ?_
                   rotate_left
                   · ((intro w hSw; (try dsimp only at hSw); go_simp) <;> with_reducible rfl)
                   try simp only [Act.put, List.setIfInBounds_toArray, List.set_cons_zero, List.set_cons_succ]
                   refine wpAnyH_take (i := 66) (oi := { dst := some 315, op := Op.indexAddr 39 (Operand.tmp 313) (Operand.tmp 314), type := 0, pos := "outright.go:189", after := #[{ on := 64, ground := Ground.data }, { on := 65, ground := Ground.data }, { on := 63, ground := Ground.guard }], guard := some (63, false) }) (v := ?_) rfl (by kernel_rfl) (by kernel_rfl) (by kernel_rfl) (fun _ _ _ h => h) (Or.inl ⟨by rfl, ?_⟩) (by assumption) ?_
                   rotate_left
                   · ((intro w hSw; (try dsimp only at hSw); go_simp) <;> with_reducible rfl)
                   try simp only [Act.put, List.setIfInBounds_toArray, List.set_cons_zero, List.set_cons_succ]
                   refine wpAnyH_take (i := 67) (oi := { dst := some 316, op := Op.load 4 (Operand.tmp 315), type := 4, pos := "outright.go:189", after := #[{ on := 66, ground := Ground.data }, { on := 63, ground := Ground.guard }], guard := some (63, false) }) (v := ?_) rfl (by kernel_rfl) (by kernel_rfl) (by kernel_rfl) (fun _ _ _ h => h) (Or.inl ⟨by rfl, ?_⟩) (by assumption) ?_
                   rotate_left
                   · ((intro w hSw; (try dsimp only at hSw); go_simp) <;> with_reducible rfl)
                   try simp only [Act.put, List.setIfInBounds_toArray, List.set_cons_zero, List.set_cons_succ]
                   refine wpAnyH_take (i := 68) (oi := { dst := some 317, op := Op.move (Operand.tmp 316), type := 4, pos := "outright.go:189", after := #[{ on := 67, ground := Ground.data }, { on := 63, ground := Ground.chain }, { on := 63, ground := Ground.guard }], guard := some (63, false) }) (v := ?_) rfl (by kernel_rfl) (by kernel_rfl) (by kernel_rfl) (fun _ _ _ h => h) (Or.inl ⟨by rfl, ?_⟩) (by assumption) ?_
                   rotate_left
                   · ((intro w hSw; (try dsimp only at hSw); go_simp) <;> with_reducible rfl)
                   try simp only [Act.put, List.setIfInBounds_toArray, List.set_cons_zero, List.set_cons_succ]
                   refine wpAnyH_take (i := 69) (oi := { dst := some 318, op := Op.move (Operand.tmp 26), type := 39, pos := "outright.go:189", after := #[{ on := 68, ground := Ground.guard }], guard := some (68, true) }) (v := ?_) rfl (by kernel_rfl) (by kernel_rfl) (by kernel_rfl) (fun _ _ _ h => h) (Or.inl ⟨by rfl, ?_⟩) (by assumption) ?_
                   rotate_left
                   · ((intro w hSw; (try dsimp only at hSw); go_simp) <;> with_reducible rfl)
                   try simp only [Act.put, List.setIfInBounds_toArray, List.set_cons_zero, List.set_cons_succ]
                   refine wpAnyH_take (i := 70) (oi := { dst := some 319, op := Op.move (Operand.tmp 31), type := 3, pos := "outright.go:189", after := #[{ on := 68, ground := Ground.guard }], guard := some (68, true) }) (v := ?_) rfl (by kernel_rfl) (by kernel_rfl) (by kernel_rfl) (fun _ _ _ h => h) (Or.inl ⟨by rfl, ?_⟩) (by assumption) ?_
                   rotate_left
                   · ((intro w hSw; (try dsimp only at hSw); go_simp) <;> with_reducible rfl)
                   try simp only [Act.put, List.setIfInBounds_toArray, List.set_cons_zero, List.set_cons_succ]
                   refine wpAnyH_take (i := 71) (oi := { dst := some 320, op := Op.indexAddr 39 (Operand.tmp 318) (Operand.tmp 319), type := 0, pos := "outright.go:189", after := #[{ on := 69, ground := Ground.data }, { on := 70, ground := Ground.data }, { on := 68, ground := Ground.guard }], guard := some (68, true) }) (v := ?_) rfl (by kernel_rfl) (by kernel_rfl) (by kernel_rfl) (fun _ _ _ h => h) (Or.inl ⟨by rfl, ?_⟩) (by assumption) ?_
                   rotate_left
                   · ((intro w hSw; (try dsimp only at hSw); go_simp) <;> with_reducible rfl)
                   try simp only [Act.put, List.setIfInBounds_toArray, List.set_cons_zero, List.set_cons_succ]
                   refine wpAnyH_take (i := 72) (oi := { dst := some 321, op := Op.load 4 (Operand.tmp 320), type := 4, pos := "outright.go:189", after := #[{ on := 71, ground := Ground.data }, { on := 68, ground := Ground.guard }], guard := some (68, true) }) (v := ?_) rfl (by kernel_rfl) (by kernel_rfl) (by kernel_rfl) (fun _ _ _ h => h) (Or.inl ⟨by rfl, ?_⟩) (by assumption) ?_
                   rotate_left
                   · ((intro w hSw; (try dsimp only at hSw); go_simp) <;> with_reducible rfl)
                   try simp only [Act.put, List.setIfInBounds_toArray, List.set_cons_zero, List.set_cons_succ]
                   refine wpAnyH_take (i := 73) (oi := { dst := some 322, op := Op.unOp UnOp.not 4 (Operand.tmp 321), type := 4, pos := "outright.go:189", after := #[{ on := 72, ground := Ground.data }, { on := 68, ground := Ground.guard }], guard := some (68, true) }) (v := ?_) rfl (by kernel_rfl) (by kernel_rfl) (by kernel_rfl) (fun _ _ _ h => h) (Or.inl ⟨by rfl, ?_⟩) (by assumption) ?_
                   rotate_left
                   · ((intro w hSw; (try dsimp only at hSw); go_simp) <;> with_reducible rfl)
                   try simp only [Act.put, List.setIfInBounds_toArray, List.set_cons_zero, List.set_cons_succ]
                   refine wpAnyH_take (i := 74) (oi := { dst := some 323, op := Op.pick (Operand.tmp 317) (Operand.tmp 322) (Operand.const (Value.bool false)), type := 4, pos := "outright.go:189", after := #[{ on := 68, ground := Ground.data }, { on := 73, ground := Ground.data }, { on := 63, ground := Ground.guard }], guard := some (63, false) }) (v := ?_) rfl (by kernel_rfl) (by kernel_rfl) (by kernel_rfl) (fun _ _ _ h => h) (Or.inl ⟨by rfl, ?_⟩) (by assumption) ?_
                   rotate_left
                   · ((intro w hSw; (try dsimp only at hSw); go_simp) <;> with_reducible rfl)
                   try simp only [Act.put, List.setIfInBounds_toArray, List.set_cons_zero, List.set_cons_succ]
                   refine wpAnyH_take (i := 75) (oi := { dst := some 324, op := Op.pick (Operand.tmp 312) (Operand.const (Value.bool true)) (Operand.tmp 323), type := 4, pos := "outright.go:189", after := #[{ on := 63, ground := Ground.data }, { on := 74, ground := Ground.data }], guard := none }) (v := ?_) rfl (by kernel_rfl) (by kernel_rfl) (by kernel_rfl) (fun _ _ _ h => h) (Or.inl ⟨by rfl, ?_⟩) (by assumption) ?_
                   rotate_left
                   · ((intro w hSw; (try dsimp only at hSw); go_simp) <;> with_reducible rfl)
                   try simp only [Act.put, List.setIfInBounds_toArray, List.set_cons_zero, List.set_cons_succ]
                   refine wpAnyH_done (by kernel_rfl) ?_ _
                   refine NoPanic.normal ?_
                   go_wp2_with fail
                   go_meet
                   exact ⟨rfl, HC.out⟩
          case rest =>
            obtain ⟨rfl, hbe⟩ := hcut
            have HBe := Lib.hid (HBr.out.trans (hbe.mono HBr.out.size))
            clear hbe
            go_wp2_with fail
            go_roundw
            case rel => exact ⟨k + 1, by omega, by go_num, HBe.out⟩
            case measure => simp [intOf]; omega
        · clear hk
          go_wp2_with fail
          refine (works_any _ (HLV.out.below HBw.out)).mono ?_
          rintro e w14 ⟨rfl, hb14⟩
          have HB14 := Lib.hid (HBw.out.trans (hb14.mono HBw.out.size))
          clear hb14
          go_wp2
          go_ret
          exact ⟨rfl, HB14.out⟩
end Go.Proofs.YthcenmocnphnmaaGreatDoor
