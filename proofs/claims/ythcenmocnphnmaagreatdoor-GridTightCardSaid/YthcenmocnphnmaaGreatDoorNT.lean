/-
  GridTight returns true.
-/
import Derived.Test.YthcenmocnphnmaaGreatDoorNI
import Derived.Test.YthcenmocnphnmaaGreatDoorND
import Derived.Test.YthcenmocnphnmaaGreatDoorNK
import Derived.Test.YthcenmocnphnmaaGreatDoorTie
import Derived.Test.YthcenmocnphnmaaGreatDoorCards
set_option linter.unusedSimpArgs false
set_option linter.unusedVariables false
namespace Go.Proofs.YthcenmocnphnmaaGreatDoor
open Go.RowKit Go.Shelf

theorem terr_len (g : G) (wh : List Int) : (terrG g wh).ss.length = g.ss.length := by simp [terrG]
theorem terr_at {g : G} (V : Valid g) (wh : List Int) {c : Nat} (hc : c < g.ss.length) : loF (terrG g wh).ss c = hiF (terrG g wh).ss c ∧ loF g.ss c ≤ loF (terrG g wh).ss c ∧ loF (terrG g wh).ss c ≤ hiF g.ss c := by
  have e : (terrG g wh).ss.getD c (0, 0) = ptT g wh c := by
    rw [List.getD_eq_getElem?_getD, List.getElem?_eq_getElem (by rw [terr_len]; exact hc)]
    simp [terrG]
  have h := hgtT_rng (wh := wh) (s := g.ss.getD c (0, 0)) (by have := (ok_of V hc).1; unfold loF hiF at this; exact this) c
  unfold loF hiF
  rw [e]
  exact ⟨rfl, h.1, h.2⟩
theorem grid_spans {w : World} {B : Nat} {a b c v : Value} {g : G} (h : GridAt w B (.agg #[a, b, c, v]) g) : SpansAt w B v g.ss := by
  obtain ⟨u, e, h⟩ := h
  injection e with e
  injection e with e
  injection e with _ e
  injection e with _ e
  injection e with _ e
  injection e with e _
  rw [e]
  exact h
theorem lwithin_yes {a b c d : Int} (h : withinB (a, b) (c, d) = true) (w : World) :
    Calls Tryz.prog 43 #[.agg #[.int .i64 a, .int .i64 b], .agg #[.int .i64 c, .int .i64 d]] w fun e w' => e = .returned (.bool true) ∧ Below w.heap.size w w' := by
  have := lwithin_any a b c d w
  rw [h] at this
  exact this
theorem lwithin_k {a b c d : Int} (h : withinB (a, b) (c, d) = true) (w0 : World) (W : World) (hW : Below w0.heap.size w0 W) :
    Calls Tryz.prog 43 #[.agg #[.int .i64 a, .int .i64 b], .agg #[.int .i64 c, .int .i64 d]] W fun e w' => e = .returned (.bool true) ∧ Hid (Below w0.heap.size w0 w') :=
  (lwithin_yes h W).mono fun _ _ h => ⟨h.1, hW.trans (h.2.mono hW.size)⟩
theorem mod3000 {s : Int} (h : 0 ≤ s ∧ s ≤ 65535) : 0 ≤ s.tmod 3000 ∧ s.tmod 3000 ≤ 2999 := by
  rw [Int.tmod_eq_emod_of_nonneg h.1]; omega
theorem keeps_rng {g : G} (V : Valid g) {tt : List (Int × Int)} {low : Bool} (h1 : ∀ c, c < g.ss.length → loF g.ss c ≤ endF low tt c) (h2 : ∀ c, c < g.ss.length → endF low tt c ≤ hiF g.ss c) : ∀ c, c < g.ss.length → -1200000 ≤ endF low tt c ∧ endF low tt c ≤ 1200000 := fun c hc => by
  have a := ok_of V hc
  have b := h1 c hc
  have d := h2 c hc
  omega
set_option maxRecDepth 100000 in
set_option maxHeartbeats 8000000 in
theorem GridTight_any (W H st : Int) (x y z : Value) (low more wh : List Int) (w : World) (hW : 0 ≤ W ∧ W ≤ 255) (hH : 0 ≤ H ∧ H ≤ 255) (hst : 0 ≤ st ∧ st ≤ 65535)
    (hx : NumsAt .i16 w w.heap.size x low) (hy : NumsAt .u8 w w.heap.size y more) (hz : NumsAt .u8 w w.heap.size z wh)
    (hxr : ∀ z ∈ low, -32768 ≤ z ∧ z ≤ 32767) (hyr : ∀ z ∈ more, 0 ≤ z ∧ z ≤ 255) (hzr : ∀ z ∈ wh, 0 ≤ z ∧ z ≤ 255) (hv : LV w) :
    Calls Tryz.prog 11 #[.agg #[.int .u8 W, .int .u8 H, x, y], .int .u16 st, z] w fun e w' => e = .returned (.bool true) ∧ Below w.heap.size w w' := by
  have HX := Lib.hid hx
  have HY := Lib.hid hy
  have HZ := Lib.hid hz
  have HXR := Lib.hid (And.intro hxr (And.intro hyr hzr))
  have HLV := Lib.hid hv
  have HM1 := Lib.hid (made_ok hW.1 hH.1 hxr hyr)
  have HL1 := Lib.hid (made_len25 hW.1 hH.1 low more)
  obtain ⟨A1, k1, rfl, hk1, hm1⟩ := hx.open_
  obtain ⟨A2, k2, rfl, hk2, hm2⟩ := hy.open_
  obtain ⟨A3, k3, rfl, hk3, hm3⟩ := hz.open_
  clear hx hy hz hxr hyr hzr hv
  obtain ⟨W1, hW1⟩ : ∃ W1, w.alloc (.cells #[.int .u8 W, .int .u8 H, .slice A1 low.length k1, .slice A2 more.length k2] 64) = W1 := ⟨_, rfl⟩
  have HB0 : Hid (Below w.heap.size w W1) := by rw [← hW1]; exact (by repeat (first | exact Below.refl _ _ | assumption | refine Below.drew ?_ | refine Below.drewN' ?_ _ | (refine Below.alloc ?_ (by simp <;> omega) _) | (refine Below.setCell ?_ (by simp <;> omega) _)))
  have HK0 : Hid (Blk W1 w.heap.size 64 #[.int .u8 W, .int .u8 H, .slice A1 low.length k1, .slice A2 more.length k2]) := by rw [← hW1]; exact Blk.new' _ _ _ rfl
  have HW1 := Lib.hid hW1
  clear hW1
  obtain ⟨d, hd⟩ : ∃ d, st.tmod 3000 = d := ⟨_, rfl⟩
  have hd0 := mod3000 hst
  rw [hd] at hd0
  obtain ⟨hd1, hd2⟩ := hd0
  obtain ⟨hst1, hst2⟩ := hst
  have ws : IntKind.i64.wrap st = st := IntWalk.i64_in _ (by omega)
  go_enter Tryz.func11, Tryz.ntmps11
  go_upto_region 1 with (fail)
  rw [HW1.out]
  have d0 : W1.cell? ⟨w.heap.size, 0, none⟩ = some (.int .u8 W) := HK0.out.cell 0
  have d1 : W1.cell? ⟨w.heap.size, 1, none⟩ = some (.int .u8 H) := HK0.out.cell 1
  have d2 : W1.cell? ⟨w.heap.size, 2, none⟩ = some (.slice A1 low.length k1) := HK0.out.cell 2
  have d3 : W1.cell? ⟨w.heap.size, 3, none⟩ = some (.slice A2 more.length k2) := HK0.out.cell 3
  go_wp2_with fail
  refine (made_any W H _ _ low more _ hW hH (HX.out.later HB0.out (Nat.le_refl _)) (HY.out.later HB0.out (Nat.le_refl _)) HXR.out.1 HXR.out.2.1).mono ?_
  rintro e w2 ⟨x2, rfl, hg2, hb2, -⟩
  have HG2 := Lib.hid hg2
  obtain ⟨g, hg⟩ : ∃ g, madeG W H low more = g := ⟨_, rfl⟩
  rw [hg] at HG2 HM1 HL1 hg2
  clear hg
  obtain ⟨v2, rfl, hs2⟩ := hg2
  obtain ⟨B2, c2, rfl, _, _⟩ := hs2.open_
  have HB2 := Lib.hid (HB0.out.trans (hb2.mono HB0.out.size))
  clear hb2 hs2 d0 d1 d2 d3
  go_upto_region 3 with (fail)
  obtain ⟨V2, hV2⟩ : ∃ V, (w2.alloc (.cells #[.int .i64 g.W, .int .i64 g.H, .int .i64 g.S, .slice B2 g.ss.length c2] 24)).alloc (.cells #[.int .i64 d] 3) = V := ⟨_, rfl⟩
  have HVB2 : Hid (Below w2.heap.size w2 V2) := by rw [← hV2]; exact (by repeat (first | exact Below.refl _ _ | assumption | refine Below.drew ?_ | refine Below.drewN' ?_ _ | (refine Below.alloc ?_ (by simp <;> omega) _) | (refine Below.setCell ?_ (by simp <;> omega) _)))
  have HVK2 : Hid (Blk V2 w2.heap.size 24 #[.int .i64 g.W, .int .i64 g.H, .int .i64 g.S, .slice B2 g.ss.length c2]) := by rw [← hV2]; exact Blk.alloc (Blk.new' _ _ _ rfl) _
  have HVD2 : Hid (Blk V2 (w2.heap.size + 1) 3 #[.int .i64 d]) := by rw [← hV2]; exact Blk.new' _ _ _ (by simp)
  rw [hV2]
  clear hV2 ws
  have HBV2 := Lib.hid (HB2.out.trans (HVB2.out.mono HB2.out.size))
  have HGV2 := Lib.hid (HG2.out.later HVB2.out (Nat.le_refl _))
  clear HG2 HVB2
  have HVv := Lib.hid (valid_of HM1.out)
  have hL25 := HL1.out
  obtain ⟨p0, p1, p2, p3⟩ := grid_parts HVK2.out
  go_wp2_with fail
  refine (terrain_any _ _ g wh _ HGV2.out (HZ.out.later HBV2.out (Nat.le_refl _)) HXR.out.2.2 HVv.out (by omega)).mono ?_
  rintro e w4 ⟨x4, rfl, hg4, hb4, -⟩
  have HTL := Lib.hid (terr_len g wh)
  have HTA := Lib.hid (fun c hc => terr_at HVv.out wh (c := c) hc)
  have HTW : Hid ((terrG g wh).W = g.W ∧ (terrG g wh).H = g.H ∧ (terrG g wh).S = g.S) := ⟨rfl, rfl, rfl⟩
  obtain ⟨T, hT⟩ : ∃ T, terrG g wh = T := ⟨_, rfl⟩
  rw [hT] at hg4 HTL HTA HTW
  clear hT
  have HG4 := Lib.hid hg4
  obtain ⟨v4, rfl, hs4⟩ := hg4
  obtain ⟨B4, c4, rfl⟩ := hs4.open_len HTL.out
  have HB4 := Lib.hid (HBV2.out.trans (hb4.mono HBV2.out.size))
  have HK4 := Lib.hid (HVK2.out.below hb4 HVK2.out.lt)
  have HD4 := Lib.hid (HVD2.out.below hb4 HVD2.out.lt)
  have HGg4 := Lib.hid (HGV2.out.later hb4 (Nat.le_refl _))
  clear hb4 hs4 p0 p1 p2 p3 HVK2 HVD2 HGV2
  go_upto_region 5 with (fail)
  obtain ⟨V4, hV4⟩ : ∃ V, w4.alloc (.cells #[.int .i64 T.W, .int .i64 T.H, .int .i64 T.S, .slice B4 g.ss.length c4] 24) = V := ⟨_, rfl⟩
  have HVB4 : Hid (Below w4.heap.size w4 V4) := by rw [← hV4]; exact (by repeat (first | exact Below.refl _ _ | assumption | refine Below.drew ?_ | refine Below.drewN' ?_ _ | (refine Below.alloc ?_ (by simp <;> omega) _) | (refine Below.setCell ?_ (by simp <;> omega) _)))
  have HVK4 : Hid (Blk V4 w4.heap.size 24 #[.int .i64 T.W, .int .i64 T.H, .int .i64 T.S, .slice B4 g.ss.length c4]) := by rw [← hV4]; exact Blk.new' _ _ _ rfl
  rw [hV4]
  clear hV4
  have HBV4 := Lib.hid (HB4.out.trans (HVB4.out.mono HB4.out.size))
  have HKV4 := Lib.hid (HK4.out.below HVB4.out HK4.out.lt)
  have HDV4 := Lib.hid (HD4.out.below HVB4.out HD4.out.lt)
  have HGV4 := Lib.hid (HGg4.out.later HVB4.out (Nat.le_refl _))
  have HTV4 := Lib.hid (HG4.out.later HVB4.out (Nat.le_refl _))
  have hlt24 : w2.heap.size < w4.heap.size := HK4.out.lt
  clear HK4 HD4 HGg4 HG4 HVB4
  obtain ⟨p0, p1, p2, p3⟩ := grid_parts HKV4.out
  have y0 := HDV4.out.cell 0
  simp only [List.getElem?_toArray, List.getElem?_cons_zero] at y0
  go_wp2_with fail
  refine (Tighten_any _ g d _ HGV4.out).mono ?_
  rintro e w5 ⟨x5, r, rfl, hg5, hb5, tt, htt, hr⟩
  have HTT := Lib.hid (htt HM1.out (by omega))
  have HTC := Lib.hid (tight_cases HM1.out (d := d) (by omega) HTT.out)
  rw [← hr] at HTC
  clear htt hr
  have HB5 := Lib.hid (HBV4.out.trans (hb5.mono HBV4.out.size))
  have HK5 := Lib.hid (HKV4.out.below hb5 HKV4.out.lt)
  have HD5 := Lib.hid (HDV4.out.below hb5 HDV4.out.lt)
  have HT5 := Lib.hid (HVK4.out.below hb5 HVK4.out.lt)
  have HGg5 := Lib.hid (HGV4.out.later hb5 (Nat.le_refl _))
  have HGt5 := Lib.hid (HTV4.out.later hb5 (Nat.le_refl _))
  have HG5 := Lib.hid hg5
  have hlt45 : w4.heap.size < w5.heap.size := HT5.out.lt
  have HRt : Hid (∀ c, c < g.ss.length → -1200000 ≤ endF true T.ss c ∧ endF true T.ss c ≤ 1200000) := keeps_rng HVv.out (fun c hc => (HTA.out c hc).2.1) (fun c hc => (HTA.out c hc).2.2)
  clear hb5 p0 p1 p2 p3 y0 HKV4 HDV4 HVK4 HGV4 HTV4
  rcases HTC.out with ⟨rfl, hc⟩ | ⟨rfl, hall⟩
  · have HCf := Lib.hid hc
    clear hc
    obtain ⟨v5, rfl, hs5⟩ := hg5
    obtain ⟨B5, c5, rfl, _, _⟩ := hs5.open_
    clear hs5
    go_upto_region 6 with (fail)
    obtain ⟨V5, hV5⟩ : ∃ V, w5.alloc (.cells #[.int .i64 zeroG.W, .int .i64 zeroG.H, .int .i64 zeroG.S, .slice B5 zeroG.ss.length c5] 24) = V := ⟨_, rfl⟩
    have HVB5 : Hid (Below w5.heap.size w5 V5) := by rw [← hV5]; exact (by repeat (first | exact Below.refl _ _ | assumption | refine Below.drew ?_ | refine Below.drewN' ?_ _ | (refine Below.alloc ?_ (by simp <;> omega) _) | (refine Below.setCell ?_ (by simp <;> omega) _)))
    rw [hV5]
    clear hV5
    have HBV5 := Lib.hid (HB5.out.trans (HVB5.out.mono HB5.out.size))
    obtain ⟨p0, p1, p2, p3⟩ := grid_parts (HT5.out.below HVB5.out HT5.out.lt)
    go_wp2_with fail
    refine (keeps_any _ _ g B2 c2 _ T.ss true d _ (HK5.out.below HVB5.out HK5.out.lt) (grid_spans (HGg5.out.later HVB5.out (Nat.le_refl _))) (HD5.out.below HVB5.out HD5.out.lt) (grid_spans (HGt5.out.later HVB5.out (Nat.le_refl _))) HTL.out HVv.out (by omega) HRt.out).mono ?_
    rintro e w6 ⟨b0, rfl, hb0, hb6⟩
    have hf : b0 = false := by
      cases b0
      · rfl
      · obtain ⟨c, hc, hlt⟩ := HCf.out
        have h1 := tight_between (f := endF true T.ss) HVv.out HTT.out (fun c hc => (HTA.out c hc).2) (hb0.1 rfl) hc
        omega
    subst hf
    have HB6 := Lib.hid (HBV5.out.trans (hb6.mono HBV5.out.size))
    clear hb6 hb0 p0 p1 p2 p3
    go_wp2_with fail
    refine (works_any _ (HLV.out.below HB6.out)).mono ?_
    rintro e w7 ⟨rfl, hb7⟩
    have HB7 := Lib.hid (HB6.out.trans (hb7.mono HB6.out.size))
    clear hb7
    go_wp2
    go_ret
    exact ⟨rfl, HB7.out⟩
  · have HAll := Lib.hid hall
    clear hall
    have hl5 : tt.length = g.ss.length := HTT.out.length
    have HL5 := Lib.hid hl5
    clear hl5
    obtain ⟨v5, rfl, hs5⟩ := hg5
    obtain ⟨B5, c5, rfl⟩ := hs5.open_len (L := g.ss.length) HL5.out
    clear hs5
    go_upto_region 6 with (fail)
    obtain ⟨V5, hV5⟩ : ∃ V, w5.alloc (.cells #[.int .i64 g.W, .int .i64 g.H, .int .i64 g.S, .slice B5 g.ss.length c5] 24) = V := ⟨_, rfl⟩
    have HVB5 : Hid (Below w5.heap.size w5 V5) := by rw [← hV5]; exact (by repeat (first | exact Below.refl _ _ | assumption | refine Below.drew ?_ | refine Below.drewN' ?_ _ | (refine Below.alloc ?_ (by simp <;> omega) _) | (refine Below.setCell ?_ (by simp <;> omega) _)))
    have HVK5 : Hid (Blk V5 w5.heap.size 24 #[.int .i64 g.W, .int .i64 g.H, .int .i64 g.S, .slice B5 g.ss.length c5]) := by rw [← hV5]; exact Blk.new' _ _ _ rfl
    rw [hV5]
    clear hV5
    have HBV5 := Lib.hid (HB5.out.trans (HVB5.out.mono HB5.out.size))
    have HKV5 := Lib.hid (HK5.out.below HVB5.out HK5.out.lt)
    have HDV5 := Lib.hid (HD5.out.below HVB5.out HD5.out.lt)
    have HTV5 := Lib.hid (HT5.out.below HVB5.out HT5.out.lt)
    have HGgV5 := Lib.hid (HGg5.out.later HVB5.out (Nat.le_refl _))
    have HGtV5 := Lib.hid (HGt5.out.later HVB5.out (Nat.le_refl _))
    have HGxV5 := Lib.hid (HG5.out.later HVB5.out (Nat.le_refl _))
    clear HK5 HD5 HT5 HGg5 HGt5 HG5 HVB5
    obtain ⟨p0, p1, p2, p3⟩ := grid_parts HTV5.out
    go_wp2_with fail
    refine (keeps_any _ _ g B2 c2 _ T.ss true d _ HKV5.out (grid_spans HGgV5.out) HDV5.out (grid_spans HGtV5.out) HTL.out HVv.out (by omega) HRt.out).mono ?_
    rintro e w6 ⟨b0, rfl, hb0, hb6⟩
    have HIS := Lib.hid hb0
    have HB6 := Lib.hid (HBV5.out.trans (hb6.mono HBV5.out.size))
    have HK6 := Lib.hid (HKV5.out.below hb6 HKV5.out.lt)
    have HD6 := Lib.hid (HDV5.out.below hb6 HDV5.out.lt)
    have HT6 := Lib.hid (HTV5.out.below hb6 HTV5.out.lt)
    have HX6 := Lib.hid (HVK5.out.below hb6 HVK5.out.lt)
    have HGg6 := Lib.hid (HGgV5.out.later hb6 (Nat.le_refl _))
    have HGt6 := Lib.hid (HGtV5.out.later hb6 (Nat.le_refl _))
    have HGx6 := Lib.hid (HGxV5.out.later hb6 (Nat.le_refl _))
    clear hb0 hb6 p0 p1 p2 p3 HKV5 HDV5 HTV5 HVK5 HGgV5 HGtV5 HGxV5
    have HTK := Lib.hid (tight_keeps HVv.out HTT.out)
    have HWI := Lib.hid (fun c hc => tight_within HTT.out (c := c) hc)
    have HR1 : Hid (∀ c, c < g.ss.length → -1200000 ≤ endF true tt c ∧ endF true tt c ≤ 1200000) := keeps_rng HVv.out (fun c hc => (HWI.out c hc).1) (fun c hc => Int.le_trans (HAll.out c hc) (HWI.out c hc).2)
    have HR2 : Hid (∀ c, c < g.ss.length → -1200000 ≤ endF false tt c ∧ endF false tt c ≤ 1200000) := keeps_rng HVv.out (fun c hc => Int.le_trans (HWI.out c hc).1 (HAll.out c hc)) (fun c hc => (HWI.out c hc).2)
    obtain ⟨p0, p1, p2, p3⟩ := grid_parts HX6.out
    obtain ⟨q0, q1, q2, q3⟩ := grid_parts HK6.out
    go_wp2_with fail
    refine (keeps_any _ _ g B2 c2 _ tt true d _ HK6.out (grid_spans HGg6.out) HD6.out (grid_spans HGx6.out) HL5.out HVv.out (by omega) HR1.out).mono ?_
    rintro e w7 ⟨b1, rfl, hb1, hb7⟩
    have hf : b1 = true := hb1.2 HTK.out.1
    subst hf
    have HB7 := Lib.hid (HB6.out.trans (hb7.mono HB6.out.size))
    have HK7 := Lib.hid (HK6.out.below hb7 HK6.out.lt)
    have HD7 := Lib.hid (HD6.out.below hb7 HD6.out.lt)
    have HT7 := Lib.hid (HT6.out.below hb7 HT6.out.lt)
    have HX7 := Lib.hid (HX6.out.below hb7 HX6.out.lt)
    have HGg7 := Lib.hid (HGg6.out.later hb7 (Nat.le_refl _))
    have HGt7 := Lib.hid (HGt6.out.later hb7 (Nat.le_refl _))
    have HGx7 := Lib.hid (HGx6.out.later hb7 (Nat.le_refl _))
    clear hb1 hb7 p0 p1 p2 p3 q0 q1 q2 q3 HK6 HD6 HT6 HX6 HGg6 HGt6 HGx6
    obtain ⟨p0, p1, p2, p3⟩ := grid_parts HX7.out
    go_wp2_with fail
    refine (keeps_any _ _ g B2 c2 _ tt false d _ HK7.out (grid_spans HGg7.out) HD7.out (grid_spans HGx7.out) HL5.out HVv.out (by omega) HR2.out).mono ?_
    rintro e w8 ⟨b2, rfl, hb2, hb8⟩
    have hf : b2 = true := hb2.2 HTK.out.2
    subst hf
    have HB8 := Lib.hid (HB7.out.trans (hb8.mono HB7.out.size))
    have HK8 := Lib.hid (HK7.out.below hb8 HK7.out.lt)
    have HD8 := Lib.hid (HD7.out.below hb8 HD7.out.lt)
    have HT8 := Lib.hid (HT7.out.below hb8 HT7.out.lt)
    have HX8 := Lib.hid (HX7.out.below hb8 HX7.out.lt)
    have HGg8 := Lib.hid (grid_spans (HGg7.out.later hb8 (Nat.le_refl _)))
    have HGt8 := Lib.hid (grid_spans (HGt7.out.later hb8 (Nat.le_refl _)))
    have HGx8 := Lib.hid (HGx7.out.later hb8 (Nat.le_refl _))
    clear hb2 hb8 p0 p1 p2 p3 HK7 HD7 HT7 HX7 HGg7 HGt7 HGx7
    have HWt := Lib.hid (fun (hb : b0 = true) c hc => tight_between (f := endF true T.ss) HVv.out HTT.out (fun c hc => (HTA.out c hc).2) (HIS.out.1 hb) (c := c) hc)
    obtain ⟨p0, p1, p2, p3⟩ := grid_parts HX8.out
    go_wp2_with fail
    clear p0 p1 p2 p3
    go_loopw [70] (fun i wr => ∃ k : Nat, k ≤ g.ss.length ∧ i = .int .i64 k ∧ Hid (Below w8.heap.size w8 wr)) (fun i _ => g.ss.length - (intOf i).toNat)
    case atStart => exact ⟨0, Nat.zero_le _, rfl, Below.refl _ _⟩
    case round =>
      obtain ⟨k, hk, rfl, HBr⟩ := hrel
      have HBw := Lib.hid (HB8.out.trans (HBr.out.mono HB8.out.size))
      by_cases hlt : k < g.ss.length
      · have hk0 : (0 : Int) ≤ (k : Int) := by omega
        have hk1 : (k : Int) < (g.ss.length : Int) := by omega
        obtain ⟨p0, p1, p2, p3⟩ := grid_parts (HX8.out.below HBr.out HX8.out.lt)
        obtain ⟨q0, q1, q2, q3⟩ := grid_parts (HK8.out.below HBr.out HK8.out.lt)
        obtain ⟨o0, o1, o2, o3⟩ := grid_parts (HT8.out.below HBr.out HT8.out.lt)
        clear p0 p1 p2 q0 q1 q2 o0 o1 o2
        have lx : w5.heap.size < wr.heap.size := Nat.lt_of_lt_of_le HX8.out.lt HBr.out.size
        have lg : w2.heap.size < wr.heap.size := Nat.lt_of_lt_of_le HK8.out.lt HBr.out.size
        have lt : w4.heap.size < wr.heap.size := Nat.lt_of_lt_of_le HT8.out.lt HBr.out.size
        have sz := HBr.out.size
        obtain ⟨bx, ox, xa, xb, rfl, hbx, ex, x1, x2⟩ := ((grid_spans HGx8.out).below HBr.out).atD (k := k) (by show k < tt.length; rw [HL5.out]; exact hlt)
        obtain ⟨bg, og, ga, gb, rfl, hbg, eg, g1, g2⟩ := (HGg8.out.below HBr.out).atD (k := k) hlt
        obtain ⟨bt, ot, ta, tb, rfl, hbt, et, t1, t2⟩ := (HGt8.out.below HBr.out).atD (k := k) (by rw [HTL.out]; exact hlt)
        replace hbx : bx < wr.heap.size := by omega
        replace hbg : bg < wr.heap.size := by omega
        replace hbt : bt < wr.heap.size := by omega
        have e1 : loF tt k = xa ∧ hiF tt k = xb := by unfold loF hiF; exact ⟨by rw [show tt.getD k (0, 0) = (xa, xb) from ex], by rw [show tt.getD k (0, 0) = (xa, xb) from ex]⟩
        have e2 : loF g.ss k = ga ∧ hiF g.ss k = gb := by unfold loF hiF; exact ⟨by rw [eg], by rw [eg]⟩
        have e3 : loF T.ss k = ta ∧ hiF T.ss k = tb := by unfold loF hiF; exact ⟨by rw [et], by rw [et]⟩
        have HW1 : Hid (∀ W, Below wr.heap.size wr W → Calls Tryz.prog 43 #[.agg #[.int .i64 xa, .int .i64 xb], .agg #[.int .i64 ga, .int .i64 gb]] W fun e w' => e = .returned (.bool true) ∧ Hid (Below wr.heap.size wr w')) := lwithin_k (by
          have a := HWI.out k hlt
          have b := HAll.out k hlt
          rw [e1.1, e1.2, e2.1, e2.2] at a
          rw [e1.1, e1.2] at b
          exact withinB_of a.1 a.2 b) wr
        have HW2 : Hid (b0 = true → ∀ W, Below wr.heap.size wr W → Calls Tryz.prog 43 #[.agg #[.int .i64 ta, .int .i64 tb], .agg #[.int .i64 xa, .int .i64 xb]] W fun e w' => e = .returned (.bool true) ∧ Hid (Below wr.heap.size wr w')) := fun hb => lwithin_k (by
          have a := HWt.out hb k hlt
          have b := (HTA.out k hlt).1
          have e4 : endF true T.ss k = loF T.ss k := rfl
          rw [e4, e1.1, e1.2, e3.1] at a
          rw [e3.1, e3.2] at b
          exact withinB_of a.1 (by omega) (by omega)) wr
        clear sz ex eg et e1 e2 e3
        have HSk : Hid (∀ W, Below wr.heap.size wr W → W.cell? ⟨w5.heap.size, 3, none⟩ = some (.slice (some ⟨bx, ox, none⟩) g.ss.length c5) ∧ W.cell? ⟨w2.heap.size, 3, none⟩ = some (.slice (some ⟨bg, og, none⟩) g.ss.length c2) ∧ W.cell? ⟨w4.heap.size, 3, none⟩ = some (.slice (some ⟨bt, ot, none⟩) g.ss.length c4) ∧ W.cell? ⟨bx, ox + k * 2, none⟩ = some (.int .i64 xa) ∧ W.cell? ⟨bx, ox + k * 2 + 1, none⟩ = some (.int .i64 xb) ∧ W.cell? ⟨bg, og + k * 2, none⟩ = some (.int .i64 ga) ∧ W.cell? ⟨bg, og + k * 2 + 1, none⟩ = some (.int .i64 gb) ∧ W.cell? ⟨bt, ot + k * 2, none⟩ = some (.int .i64 ta) ∧ W.cell? ⟨bt, ot + k * 2 + 1, none⟩ = some (.int .i64 tb)) := fun W hW => ⟨(hW.cell (p := ⟨w5.heap.size, 3, none⟩) lx).trans p3, (hW.cell (p := ⟨w2.heap.size, 3, none⟩) lg).trans q3, (hW.cell (p := ⟨w4.heap.size, 3, none⟩) lt).trans o3, (hW.cell (p := ⟨bx, ox + k * 2, none⟩) hbx).trans x1, (hW.cell (p := ⟨bx, ox + k * 2 + 1, none⟩) hbx).trans x2, (hW.cell (p := ⟨bg, og + k * 2, none⟩) hbg).trans g1, (hW.cell (p := ⟨bg, og + k * 2 + 1, none⟩) hbg).trans g2, (hW.cell (p := ⟨bt, ot + k * 2, none⟩) hbt).trans t1, (hW.cell (p := ⟨bt, ot + k * 2 + 1, none⟩) hbt).trans t2⟩
        clear p3 q3 o3 x1 x2 g1 g2 t1 t2 hbg hbt hbx lg lt lx
        have HC := Lib.hid (Below.drew (Below.refl wr.heap.size wr))
        go_upto_region 14 with (fail)
        go_cut [101] from 73 to 102 (fun s wx => s = .bool false ∧ Below wr.heap.size wr wx)
        case first =>
          cases b0 with
          | false =>
            obtain ⟨k0, k1, k2, k3, k4, k5, k6, k7, k8⟩ := HSk.out _ HC.out
            refine wp_region_noPanic ?_
            refine wp_region_held_drew (S := (fun w' => w'.cell? ⟨w5.heap.size, 3, none⟩ = some (.slice (some ⟨bx, ox, none⟩) g.ss.length c5) ∧ w'.cell? ⟨w2.heap.size, 3, none⟩ = some (.slice (some ⟨bg, og, none⟩) g.ss.length c2) ∧ w'.cell? ⟨w4.heap.size, 3, none⟩ = some (.slice (some ⟨bt, ot, none⟩) g.ss.length c4) ∧ w'.cell? ⟨bx, ox + k * 2, none⟩ = some (.int .i64 xa) ∧ w'.cell? ⟨bx, ox + k * 2 + 1, none⟩ = some (.int .i64 xb) ∧ w'.cell? ⟨bg, og + k * 2, none⟩ = some (.int .i64 ga) ∧ w'.cell? ⟨bg, og + k * 2 + 1, none⟩ = some (.int .i64 gb) ∧ w'.cell? ⟨bt, ot + k * 2, none⟩ = some (.int .i64 ta) ∧ w'.cell? ⟨bt, ot + k * 2 + 1, none⟩ = some (.int .i64 tb))) (by kernel_rfl) ?_ (fun hHeld => ?_)
            · (try dsimp only); (refine ⟨?_, ?_, ?_, ?_, ?_, ?_, ?_, ?_, ?_⟩ <;> assumption)
            refine wpAnyH_take (i := 0) (oi := { dst := some 73, op := Op.fieldAddr 24 (Operand.tmp 11) 3, type := 0, pos := "outright.go:261", after := #[], guard := none }) (v := ?_) rfl (by kernel_rfl) (by kernel_rfl) (by kernel_rfl) (fun _ _ _ h => h) (Or.inl ⟨by rfl, ?_⟩) (by assumption) ?_
            rotate_left
            · ((intro w hSw; (try dsimp only at hSw); go_simp) <;> with_reducible rfl)
            try simp only [Act.put, List.setIfInBounds_toArray, List.set_cons_zero, List.set_cons_succ]
            refine wpAnyH_take (i := 1) (oi := { dst := some 74, op := Op.load 22 (Operand.tmp 73), type := 22, pos := "outright.go:261", after := #[{ on := 0, ground := Ground.data }], guard := none }) (v := ?_) rfl (by kernel_rfl) (by kernel_rfl) (by kernel_rfl) (fun _ _ _ h => h) (Or.inl ⟨by rfl, ?_⟩) (by assumption) ?_
            rotate_left
            · ((intro w hSw; (try dsimp only at hSw); go_simp) <;> with_reducible rfl)
            try simp only [Act.put, List.setIfInBounds_toArray, List.set_cons_zero, List.set_cons_succ]
            refine wpAnyH_take (i := 2) (oi := { dst := some 75, op := Op.move (Operand.tmp 14), type := 3, pos := "outright.go:261", after := #[], guard := none }) (v := ?_) rfl (by kernel_rfl) (by kernel_rfl) (by kernel_rfl) (fun _ _ _ h => h) (Or.inl ⟨by rfl, ?_⟩) (by assumption) ?_
            rotate_left
            · ((intro w hSw; (try dsimp only at hSw); go_simp) <;> with_reducible rfl)
            try simp only [Act.put, List.setIfInBounds_toArray, List.set_cons_zero, List.set_cons_succ]
            refine wpAnyH_take (i := 3) (oi := { dst := some 76, op := Op.indexAddr 22 (Operand.tmp 74) (Operand.tmp 75), type := 0, pos := "outright.go:261", after := #[{ on := 1, ground := Ground.data }, { on := 2, ground := Ground.data }], guard := none }) (v := ?_) rfl (by kernel_rfl) (by kernel_rfl) (by kernel_rfl) (fun _ _ _ h => h) (Or.inl ⟨by rfl, ?_⟩) (by assumption) ?_
            rotate_left
            · ((intro w hSw; (try dsimp only at hSw); go_simp) <;> with_reducible rfl)
            try simp only [Act.put, List.setIfInBounds_toArray, List.set_cons_zero, List.set_cons_succ]
            refine wpAnyH_take (i := 4) (oi := { dst := some 77, op := Op.load 34 (Operand.tmp 76), type := 34, pos := "outright.go:261", after := #[{ on := 3, ground := Ground.data }], guard := none }) (v := ?_) rfl (by kernel_rfl) (by kernel_rfl) (by kernel_rfl) (fun _ _ _ h => h) (Or.inl ⟨by rfl, ?_⟩) (by assumption) ?_
            rotate_left
            · ((intro w hSw; (try dsimp only at hSw); go_simp) <;> with_reducible rfl)
            try simp only [Act.put, List.setIfInBounds_toArray, List.set_cons_zero, List.set_cons_succ]
            refine wpAnyH_take (i := 5) (oi := { dst := some 78, op := Op.fieldAddr 24 (Operand.tmp 7) 3, type := 0, pos := "outright.go:261", after := #[], guard := none }) (v := ?_) rfl (by kernel_rfl) (by kernel_rfl) (by kernel_rfl) (fun _ _ _ h => h) (Or.inl ⟨by rfl, ?_⟩) (by assumption) ?_
            rotate_left
            · ((intro w hSw; (try dsimp only at hSw); go_simp) <;> with_reducible rfl)
            try simp only [Act.put, List.setIfInBounds_toArray, List.set_cons_zero, List.set_cons_succ]
            refine wpAnyH_take (i := 6) (oi := { dst := some 79, op := Op.load 22 (Operand.tmp 78), type := 22, pos := "outright.go:261", after := #[{ on := 5, ground := Ground.data }], guard := none }) (v := ?_) rfl (by kernel_rfl) (by kernel_rfl) (by kernel_rfl) (fun _ _ _ h => h) (Or.inl ⟨by rfl, ?_⟩) (by assumption) ?_
            rotate_left
            · ((intro w hSw; (try dsimp only at hSw); go_simp) <;> with_reducible rfl)
            try simp only [Act.put, List.setIfInBounds_toArray, List.set_cons_zero, List.set_cons_succ]
            refine wpAnyH_take (i := 7) (oi := { dst := some 80, op := Op.move (Operand.tmp 14), type := 3, pos := "outright.go:261", after := #[], guard := none }) (v := ?_) rfl (by kernel_rfl) (by kernel_rfl) (by kernel_rfl) (fun _ _ _ h => h) (Or.inl ⟨by rfl, ?_⟩) (by assumption) ?_
            rotate_left
            · ((intro w hSw; (try dsimp only at hSw); go_simp) <;> with_reducible rfl)
            try simp only [Act.put, List.setIfInBounds_toArray, List.set_cons_zero, List.set_cons_succ]
            refine wpAnyH_take (i := 8) (oi := { dst := some 81, op := Op.indexAddr 22 (Operand.tmp 79) (Operand.tmp 80), type := 0, pos := "outright.go:261", after := #[{ on := 6, ground := Ground.data }, { on := 7, ground := Ground.data }], guard := none }) (v := ?_) rfl (by kernel_rfl) (by kernel_rfl) (by kernel_rfl) (fun _ _ _ h => h) (Or.inl ⟨by rfl, ?_⟩) (by assumption) ?_
            rotate_left
            · ((intro w hSw; (try dsimp only at hSw); go_simp) <;> with_reducible rfl)
            try simp only [Act.put, List.setIfInBounds_toArray, List.set_cons_zero, List.set_cons_succ]
            refine wpAnyH_take (i := 9) (oi := { dst := some 82, op := Op.load 34 (Operand.tmp 81), type := 34, pos := "outright.go:261", after := #[{ on := 8, ground := Ground.data }], guard := none }) (v := ?_) rfl (by kernel_rfl) (by kernel_rfl) (by kernel_rfl) (fun _ _ _ h => h) (Or.inl ⟨by rfl, ?_⟩) (by assumption) ?_
            rotate_left
            · ((intro w hSw; (try dsimp only at hSw); go_simp) <;> with_reducible rfl)
            try simp only [Act.put, List.setIfInBounds_toArray, List.set_cons_zero, List.set_cons_succ]
            refine wpAnyH_ready (rs := [10]) (by kernel_rfl) (by simp) ?_
            refine AllReadyH.cons (o := { dst := some 83, op := Op.call { callee := Callee.value (Operand.func 43), args := #[Operand.tmp 77, Operand.tmp 82], argTypes := #[34, 34] }, type := 4, pos := "outright.go:261", after := #[{ on := 4, ground := Ground.data }, { on := 9, ground := Ground.data }], guard := none }) rfl (fun K hK => ?_) AllReadyH.nil
            go_simp
            ((with_reducible refine (HW1.out _ HC.out).mono ?_); rintro e wa ⟨rfl, hba⟩; clear HC k0 k1 k2 k3 k4 k5 k6 k7 k8; have HC := hba; clear hba; obtain ⟨k0, k1, k2, k3, k4, k5, k6, k7, k8⟩ := HSk.out _ HC.out)
            refine hK.out _ _ ?_ (fun hHeld => ?_)
            · (try dsimp only); (refine ⟨?_, ?_, ?_, ?_, ?_, ?_, ?_, ?_, ?_⟩ <;> assumption)
            clear hK K
            try simp only [Act.put, List.setIfInBounds_toArray, List.set_cons_zero, List.set_cons_succ]
            refine wpAnyH_take (i := 11) (oi := { dst := some 84, op := Op.unOp UnOp.not 4 (Operand.tmp 83), type := 4, pos := "outright.go:261", after := #[{ on := 10, ground := Ground.data }], guard := none }) (v := ?_) rfl (by kernel_rfl) (by kernel_rfl) (by kernel_rfl) (fun _ _ _ h => h) (Or.inl ⟨by rfl, ?_⟩) (by assumption) ?_
            rotate_left
            · ((intro w hSw; (try dsimp only at hSw); go_simp) <;> with_reducible rfl)
            try simp only [Act.put, List.setIfInBounds_toArray, List.set_cons_zero, List.set_cons_succ]
            refine wpAnyH_take (i := 12) (oi := { dst := some 85, op := Op.move (Operand.tmp 84), type := 4, pos := "outright.go:261", after := #[{ on := 11, ground := Ground.data }, { on := 10, ground := Ground.chain }], guard := none }) (v := ?_) rfl (by kernel_rfl) (by kernel_rfl) (by kernel_rfl) (fun _ _ _ h => h) (Or.inl ⟨by rfl, ?_⟩) (by assumption) ?_
            rotate_left
            · ((intro w hSw; (try dsimp only at hSw); go_simp) <;> with_reducible rfl)
            try simp only [Act.put, List.setIfInBounds_toArray, List.set_cons_zero, List.set_cons_succ]
            refine wpAnyH_take (i := 13) (oi := { dst := some 86, op := Op.move (Operand.tmp 13), type := 4, pos := "outright.go:261", after := #[{ on := 12, ground := Ground.guard }], guard := some (12, false) }) (v := ?_) rfl (by kernel_rfl) (by kernel_rfl) (by kernel_rfl) (fun _ _ _ h => h) (Or.inl ⟨by rfl, ?_⟩) (by assumption) ?_
            rotate_left
            · ((intro w hSw; (try dsimp only at hSw); go_simp) <;> with_reducible rfl)
            try simp only [Act.put, List.setIfInBounds_toArray, List.set_cons_zero, List.set_cons_succ]
            refine wpAnyH_take (i := 14) (oi := { dst := some 87, op := Op.move (Operand.tmp 86), type := 4, pos := "outright.go:261", after := #[{ on := 13, ground := Ground.data }, { on := 12, ground := Ground.chain }, { on := 12, ground := Ground.guard }], guard := some (12, false) }) (v := ?_) rfl (by kernel_rfl) (by kernel_rfl) (by kernel_rfl) (fun _ _ _ h => h) (Or.inl ⟨by rfl, ?_⟩) (by assumption) ?_
            rotate_left
            · ((intro w hSw; (try dsimp only at hSw); go_simp) <;> with_reducible rfl)
            try simp only [Act.put, List.setIfInBounds_toArray, List.set_cons_zero, List.set_cons_succ]
            refine wpAnyH_take (i := 15) (oi := { dst := some 88, op := Op.fieldAddr 24 (Operand.tmp 9) 3, type := 0, pos := "outright.go:261", after := #[{ on := 14, ground := Ground.guard }], guard := some (14, true) }) (v := undef) rfl (by kernel_rfl) (by kernel_rfl) (by kernel_rfl) (fun _ _ _ h => h) (Or.inr ⟨by rfl, rfl⟩) (by assumption) ?_
            try simp only [Act.put, List.setIfInBounds_toArray, List.set_cons_zero, List.set_cons_succ]
            refine wpAnyH_take (i := 16) (oi := { dst := some 89, op := Op.load 22 (Operand.tmp 88), type := 22, pos := "outright.go:261", after := #[{ on := 15, ground := Ground.data }, { on := 14, ground := Ground.guard }], guard := some (14, true) }) (v := undef) rfl (by kernel_rfl) (by kernel_rfl) (by kernel_rfl) (fun _ _ _ h => h) (Or.inr ⟨by rfl, rfl⟩) (by assumption) ?_
            try simp only [Act.put, List.setIfInBounds_toArray, List.set_cons_zero, List.set_cons_succ]
            refine wpAnyH_take (i := 17) (oi := { dst := some 90, op := Op.move (Operand.tmp 14), type := 3, pos := "outright.go:261", after := #[{ on := 14, ground := Ground.guard }], guard := some (14, true) }) (v := undef) rfl (by kernel_rfl) (by kernel_rfl) (by kernel_rfl) (fun _ _ _ h => h) (Or.inr ⟨by rfl, rfl⟩) (by assumption) ?_
            try simp only [Act.put, List.setIfInBounds_toArray, List.set_cons_zero, List.set_cons_succ]
            refine wpAnyH_take (i := 18) (oi := { dst := some 91, op := Op.indexAddr 22 (Operand.tmp 89) (Operand.tmp 90), type := 0, pos := "outright.go:261", after := #[{ on := 16, ground := Ground.data }, { on := 17, ground := Ground.data }, { on := 14, ground := Ground.guard }], guard := some (14, true) }) (v := undef) rfl (by kernel_rfl) (by kernel_rfl) (by kernel_rfl) (fun _ _ _ h => h) (Or.inr ⟨by rfl, rfl⟩) (by assumption) ?_
            try simp only [Act.put, List.setIfInBounds_toArray, List.set_cons_zero, List.set_cons_succ]
            refine wpAnyH_take (i := 19) (oi := { dst := some 92, op := Op.load 34 (Operand.tmp 91), type := 34, pos := "outright.go:261", after := #[{ on := 18, ground := Ground.data }, { on := 14, ground := Ground.guard }], guard := some (14, true) }) (v := undef) rfl (by kernel_rfl) (by kernel_rfl) (by kernel_rfl) (fun _ _ _ h => h) (Or.inr ⟨by rfl, rfl⟩) (by assumption) ?_
            try simp only [Act.put, List.setIfInBounds_toArray, List.set_cons_zero, List.set_cons_succ]
            refine wpAnyH_take (i := 20) (oi := { dst := some 93, op := Op.fieldAddr 24 (Operand.tmp 11) 3, type := 0, pos := "outright.go:261", after := #[{ on := 14, ground := Ground.guard }], guard := some (14, true) }) (v := undef) rfl (by kernel_rfl) (by kernel_rfl) (by kernel_rfl) (fun _ _ _ h => h) (Or.inr ⟨by rfl, rfl⟩) (by assumption) ?_
            try simp only [Act.put, List.setIfInBounds_toArray, List.set_cons_zero, List.set_cons_succ]
            refine wpAnyH_take (i := 21) (oi := { dst := some 94, op := Op.load 22 (Operand.tmp 93), type := 22, pos := "outright.go:261", after := #[{ on := 20, ground := Ground.data }, { on := 14, ground := Ground.guard }], guard := some (14, true) }) (v := undef) rfl (by kernel_rfl) (by kernel_rfl) (by kernel_rfl) (fun _ _ _ h => h) (Or.inr ⟨by rfl, rfl⟩) (by assumption) ?_
            try simp only [Act.put, List.setIfInBounds_toArray, List.set_cons_zero, List.set_cons_succ]
            refine wpAnyH_take (i := 22) (oi := { dst := some 95, op := Op.move (Operand.tmp 14), type := 3, pos := "outright.go:261", after := #[{ on := 14, ground := Ground.guard }], guard := some (14, true) }) (v := undef) rfl (by kernel_rfl) (by kernel_rfl) (by kernel_rfl) (fun _ _ _ h => h) (Or.inr ⟨by rfl, rfl⟩) (by assumption) ?_
            try simp only [Act.put, List.setIfInBounds_toArray, List.set_cons_zero, List.set_cons_succ]
            refine wpAnyH_take (i := 23) (oi := { dst := some 96, op := Op.indexAddr 22 (Operand.tmp 94) (Operand.tmp 95), type := 0, pos := "outright.go:261", after := #[{ on := 21, ground := Ground.data }, { on := 22, ground := Ground.data }, { on := 14, ground := Ground.guard }], guard := some (14, true) }) (v := undef) rfl (by kernel_rfl) (by kernel_rfl) (by kernel_rfl) (fun _ _ _ h => h) (Or.inr ⟨by rfl, rfl⟩) (by assumption) ?_
            try simp only [Act.put, List.setIfInBounds_toArray, List.set_cons_zero, List.set_cons_succ]
            refine wpAnyH_take (i := 24) (oi := { dst := some 97, op := Op.load 34 (Operand.tmp 96), type := 34, pos := "outright.go:261", after := #[{ on := 23, ground := Ground.data }, { on := 14, ground := Ground.guard }], guard := some (14, true) }) (v := undef) rfl (by kernel_rfl) (by kernel_rfl) (by kernel_rfl) (fun _ _ _ h => h) (Or.inr ⟨by rfl, rfl⟩) (by assumption) ?_
            try simp only [Act.put, List.setIfInBounds_toArray, List.set_cons_zero, List.set_cons_succ]
            refine wpAnyH_take (i := 25) (oi := { dst := some 98, op := Op.call { callee := Callee.value (Operand.func 43), args := #[Operand.tmp 92, Operand.tmp 97], argTypes := #[34, 34] }, type := 4, pos := "outright.go:261", after := #[{ on := 19, ground := Ground.data }, { on := 24, ground := Ground.data }, { on := 14, ground := Ground.chain }, { on := 14, ground := Ground.guard }], guard := some (14, true) }) (v := undef) rfl (by kernel_rfl) (by kernel_rfl) (by kernel_rfl) (fun _ _ _ h => h) (Or.inr ⟨by rfl, rfl⟩) (by assumption) ?_
            try simp only [Act.put, List.setIfInBounds_toArray, List.set_cons_zero, List.set_cons_succ]
            refine wpAnyH_take (i := 26) (oi := { dst := some 99, op := Op.unOp UnOp.not 4 (Operand.tmp 98), type := 4, pos := "outright.go:261", after := #[{ on := 25, ground := Ground.data }, { on := 14, ground := Ground.guard }], guard := some (14, true) }) (v := undef) rfl (by kernel_rfl) (by kernel_rfl) (by kernel_rfl) (fun _ _ _ h => h) (Or.inr ⟨by rfl, rfl⟩) (by assumption) ?_
            try simp only [Act.put, List.setIfInBounds_toArray, List.set_cons_zero, List.set_cons_succ]
            refine wpAnyH_take (i := 27) (oi := { dst := some 100, op := Op.pick (Operand.tmp 87) (Operand.tmp 99) (Operand.const (Value.bool false)), type := 4, pos := "outright.go:261", after := #[{ on := 14, ground := Ground.data }, { on := 26, ground := Ground.data }, { on := 12, ground := Ground.guard }], guard := some (12, false) }) (v := ?_) rfl (by kernel_rfl) (by kernel_rfl) (by kernel_rfl) (fun _ _ _ h => h) (Or.inl ⟨by rfl, ?_⟩) (by assumption) ?_
            rotate_left
            · ((intro w hSw; (try dsimp only at hSw); go_simp) <;> with_reducible rfl)
            try simp only [Act.put, List.setIfInBounds_toArray, List.set_cons_zero, List.set_cons_succ]
            refine wpAnyH_take (i := 28) (oi := { dst := some 101, op := Op.pick (Operand.tmp 85) (Operand.const (Value.bool true)) (Operand.tmp 100), type := 4, pos := "outright.go:261", after := #[{ on := 12, ground := Ground.data }, { on := 27, ground := Ground.data }], guard := none }) (v := ?_) rfl (by kernel_rfl) (by kernel_rfl) (by kernel_rfl) (fun _ _ _ h => h) (Or.inl ⟨by rfl, ?_⟩) (by assumption) ?_
            rotate_left
            · ((intro w hSw; (try dsimp only at hSw); go_simp) <;> with_reducible rfl)
            try simp only [Act.put, List.setIfInBounds_toArray, List.set_cons_zero, List.set_cons_succ]
            refine wpAnyH_done (by kernel_rfl) ?_ _
            refine NoPanic.normal ?_
            go_wp2_with fail
            go_meet
            exact ⟨rfl, HC.out⟩
          | true =>
            have HW2b := Lib.hid (HW2.out rfl)
            obtain ⟨k0, k1, k2, k3, k4, k5, k6, k7, k8⟩ := HSk.out _ HC.out
            refine wp_region_noPanic ?_
            refine wp_region_held_drew (S := (fun w' => w'.cell? ⟨w5.heap.size, 3, none⟩ = some (.slice (some ⟨bx, ox, none⟩) g.ss.length c5) ∧ w'.cell? ⟨w2.heap.size, 3, none⟩ = some (.slice (some ⟨bg, og, none⟩) g.ss.length c2) ∧ w'.cell? ⟨w4.heap.size, 3, none⟩ = some (.slice (some ⟨bt, ot, none⟩) g.ss.length c4) ∧ w'.cell? ⟨bx, ox + k * 2, none⟩ = some (.int .i64 xa) ∧ w'.cell? ⟨bx, ox + k * 2 + 1, none⟩ = some (.int .i64 xb) ∧ w'.cell? ⟨bg, og + k * 2, none⟩ = some (.int .i64 ga) ∧ w'.cell? ⟨bg, og + k * 2 + 1, none⟩ = some (.int .i64 gb) ∧ w'.cell? ⟨bt, ot + k * 2, none⟩ = some (.int .i64 ta) ∧ w'.cell? ⟨bt, ot + k * 2 + 1, none⟩ = some (.int .i64 tb))) (by kernel_rfl) ?_ (fun hHeld => ?_)
            · (try dsimp only); (refine ⟨?_, ?_, ?_, ?_, ?_, ?_, ?_, ?_, ?_⟩ <;> assumption)
            refine wpAnyH_take (i := 0) (oi := { dst := some 73, op := Op.fieldAddr 24 (Operand.tmp 11) 3, type := 0, pos := "outright.go:261", after := #[], guard := none }) (v := ?_) rfl (by kernel_rfl) (by kernel_rfl) (by kernel_rfl) (fun _ _ _ h => h) (Or.inl ⟨by rfl, ?_⟩) (by assumption) ?_
            rotate_left
            · ((intro w hSw; (try dsimp only at hSw); go_simp) <;> with_reducible rfl)
            try simp only [Act.put, List.setIfInBounds_toArray, List.set_cons_zero, List.set_cons_succ]
            refine wpAnyH_take (i := 1) (oi := { dst := some 74, op := Op.load 22 (Operand.tmp 73), type := 22, pos := "outright.go:261", after := #[{ on := 0, ground := Ground.data }], guard := none }) (v := ?_) rfl (by kernel_rfl) (by kernel_rfl) (by kernel_rfl) (fun _ _ _ h => h) (Or.inl ⟨by rfl, ?_⟩) (by assumption) ?_
            rotate_left
            · ((intro w hSw; (try dsimp only at hSw); go_simp) <;> with_reducible rfl)
            try simp only [Act.put, List.setIfInBounds_toArray, List.set_cons_zero, List.set_cons_succ]
            refine wpAnyH_take (i := 2) (oi := { dst := some 75, op := Op.move (Operand.tmp 14), type := 3, pos := "outright.go:261", after := #[], guard := none }) (v := ?_) rfl (by kernel_rfl) (by kernel_rfl) (by kernel_rfl) (fun _ _ _ h => h) (Or.inl ⟨by rfl, ?_⟩) (by assumption) ?_
            rotate_left
            · ((intro w hSw; (try dsimp only at hSw); go_simp) <;> with_reducible rfl)
            try simp only [Act.put, List.setIfInBounds_toArray, List.set_cons_zero, List.set_cons_succ]
            refine wpAnyH_take (i := 3) (oi := { dst := some 76, op := Op.indexAddr 22 (Operand.tmp 74) (Operand.tmp 75), type := 0, pos := "outright.go:261", after := #[{ on := 1, ground := Ground.data }, { on := 2, ground := Ground.data }], guard := none }) (v := ?_) rfl (by kernel_rfl) (by kernel_rfl) (by kernel_rfl) (fun _ _ _ h => h) (Or.inl ⟨by rfl, ?_⟩) (by assumption) ?_
            rotate_left
            · ((intro w hSw; (try dsimp only at hSw); go_simp) <;> with_reducible rfl)
            try simp only [Act.put, List.setIfInBounds_toArray, List.set_cons_zero, List.set_cons_succ]
            refine wpAnyH_take (i := 4) (oi := { dst := some 77, op := Op.load 34 (Operand.tmp 76), type := 34, pos := "outright.go:261", after := #[{ on := 3, ground := Ground.data }], guard := none }) (v := ?_) rfl (by kernel_rfl) (by kernel_rfl) (by kernel_rfl) (fun _ _ _ h => h) (Or.inl ⟨by rfl, ?_⟩) (by assumption) ?_
            rotate_left
            · ((intro w hSw; (try dsimp only at hSw); go_simp) <;> with_reducible rfl)
            try simp only [Act.put, List.setIfInBounds_toArray, List.set_cons_zero, List.set_cons_succ]
            refine wpAnyH_take (i := 5) (oi := { dst := some 78, op := Op.fieldAddr 24 (Operand.tmp 7) 3, type := 0, pos := "outright.go:261", after := #[], guard := none }) (v := ?_) rfl (by kernel_rfl) (by kernel_rfl) (by kernel_rfl) (fun _ _ _ h => h) (Or.inl ⟨by rfl, ?_⟩) (by assumption) ?_
            rotate_left
            · ((intro w hSw; (try dsimp only at hSw); go_simp) <;> with_reducible rfl)
            try simp only [Act.put, List.setIfInBounds_toArray, List.set_cons_zero, List.set_cons_succ]
            refine wpAnyH_take (i := 6) (oi := { dst := some 79, op := Op.load 22 (Operand.tmp 78), type := 22, pos := "outright.go:261", after := #[{ on := 5, ground := Ground.data }], guard := none }) (v := ?_) rfl (by kernel_rfl) (by kernel_rfl) (by kernel_rfl) (fun _ _ _ h => h) (Or.inl ⟨by rfl, ?_⟩) (by assumption) ?_
            rotate_left
            · ((intro w hSw; (try dsimp only at hSw); go_simp) <;> with_reducible rfl)
            try simp only [Act.put, List.setIfInBounds_toArray, List.set_cons_zero, List.set_cons_succ]
            refine wpAnyH_take (i := 7) (oi := { dst := some 80, op := Op.move (Operand.tmp 14), type := 3, pos := "outright.go:261", after := #[], guard := none }) (v := ?_) rfl (by kernel_rfl) (by kernel_rfl) (by kernel_rfl) (fun _ _ _ h => h) (Or.inl ⟨by rfl, ?_⟩) (by assumption) ?_
            rotate_left
            · ((intro w hSw; (try dsimp only at hSw); go_simp) <;> with_reducible rfl)
            try simp only [Act.put, List.setIfInBounds_toArray, List.set_cons_zero, List.set_cons_succ]
            refine wpAnyH_take (i := 8) (oi := { dst := some 81, op := Op.indexAddr 22 (Operand.tmp 79) (Operand.tmp 80), type := 0, pos := "outright.go:261", after := #[{ on := 6, ground := Ground.data }, { on := 7, ground := Ground.data }], guard := none }) (v := ?_) rfl (by kernel_rfl) (by kernel_rfl) (by kernel_rfl) (fun _ _ _ h => h) (Or.inl ⟨by rfl, ?_⟩) (by assumption) ?_
            rotate_left
            · ((intro w hSw; (try dsimp only at hSw); go_simp) <;> with_reducible rfl)
            try simp only [Act.put, List.setIfInBounds_toArray, List.set_cons_zero, List.set_cons_succ]
            refine wpAnyH_take (i := 9) (oi := { dst := some 82, op := Op.load 34 (Operand.tmp 81), type := 34, pos := "outright.go:261", after := #[{ on := 8, ground := Ground.data }], guard := none }) (v := ?_) rfl (by kernel_rfl) (by kernel_rfl) (by kernel_rfl) (fun _ _ _ h => h) (Or.inl ⟨by rfl, ?_⟩) (by assumption) ?_
            rotate_left
            · ((intro w hSw; (try dsimp only at hSw); go_simp) <;> with_reducible rfl)
            try simp only [Act.put, List.setIfInBounds_toArray, List.set_cons_zero, List.set_cons_succ]
            refine wpAnyH_ready (rs := [10]) (by kernel_rfl) (by simp) ?_
            refine AllReadyH.cons (o := { dst := some 83, op := Op.call { callee := Callee.value (Operand.func 43), args := #[Operand.tmp 77, Operand.tmp 82], argTypes := #[34, 34] }, type := 4, pos := "outright.go:261", after := #[{ on := 4, ground := Ground.data }, { on := 9, ground := Ground.data }], guard := none }) rfl (fun K hK => ?_) AllReadyH.nil
            go_simp
            ((with_reducible refine (HW1.out _ HC.out).mono ?_); rintro e wa ⟨rfl, hba⟩; clear HC k0 k1 k2 k3 k4 k5 k6 k7 k8; have HC := hba; clear hba; obtain ⟨k0, k1, k2, k3, k4, k5, k6, k7, k8⟩ := HSk.out _ HC.out)
            refine hK.out _ _ ?_ (fun hHeld => ?_)
            · (try dsimp only); (refine ⟨?_, ?_, ?_, ?_, ?_, ?_, ?_, ?_, ?_⟩ <;> assumption)
            clear hK K
            try simp only [Act.put, List.setIfInBounds_toArray, List.set_cons_zero, List.set_cons_succ]
            refine wpAnyH_take (i := 11) (oi := { dst := some 84, op := Op.unOp UnOp.not 4 (Operand.tmp 83), type := 4, pos := "outright.go:261", after := #[{ on := 10, ground := Ground.data }], guard := none }) (v := ?_) rfl (by kernel_rfl) (by kernel_rfl) (by kernel_rfl) (fun _ _ _ h => h) (Or.inl ⟨by rfl, ?_⟩) (by assumption) ?_
            rotate_left
            · ((intro w hSw; (try dsimp only at hSw); go_simp) <;> with_reducible rfl)
            try simp only [Act.put, List.setIfInBounds_toArray, List.set_cons_zero, List.set_cons_succ]
            refine wpAnyH_take (i := 12) (oi := { dst := some 85, op := Op.move (Operand.tmp 84), type := 4, pos := "outright.go:261", after := #[{ on := 11, ground := Ground.data }, { on := 10, ground := Ground.chain }], guard := none }) (v := ?_) rfl (by kernel_rfl) (by kernel_rfl) (by kernel_rfl) (fun _ _ _ h => h) (Or.inl ⟨by rfl, ?_⟩) (by assumption) ?_
            rotate_left
            · ((intro w hSw; (try dsimp only at hSw); go_simp) <;> with_reducible rfl)
            try simp only [Act.put, List.setIfInBounds_toArray, List.set_cons_zero, List.set_cons_succ]
            refine wpAnyH_take (i := 13) (oi := { dst := some 86, op := Op.move (Operand.tmp 13), type := 4, pos := "outright.go:261", after := #[{ on := 12, ground := Ground.guard }], guard := some (12, false) }) (v := ?_) rfl (by kernel_rfl) (by kernel_rfl) (by kernel_rfl) (fun _ _ _ h => h) (Or.inl ⟨by rfl, ?_⟩) (by assumption) ?_
            rotate_left
            · ((intro w hSw; (try dsimp only at hSw); go_simp) <;> with_reducible rfl)
            try simp only [Act.put, List.setIfInBounds_toArray, List.set_cons_zero, List.set_cons_succ]
            refine wpAnyH_take (i := 14) (oi := { dst := some 87, op := Op.move (Operand.tmp 86), type := 4, pos := "outright.go:261", after := #[{ on := 13, ground := Ground.data }, { on := 12, ground := Ground.chain }, { on := 12, ground := Ground.guard }], guard := some (12, false) }) (v := ?_) rfl (by kernel_rfl) (by kernel_rfl) (by kernel_rfl) (fun _ _ _ h => h) (Or.inl ⟨by rfl, ?_⟩) (by assumption) ?_
            rotate_left
            · ((intro w hSw; (try dsimp only at hSw); go_simp) <;> with_reducible rfl)
            try simp only [Act.put, List.setIfInBounds_toArray, List.set_cons_zero, List.set_cons_succ]
            refine wpAnyH_take (i := 15) (oi := { dst := some 88, op := Op.fieldAddr 24 (Operand.tmp 9) 3, type := 0, pos := "outright.go:261", after := #[{ on := 14, ground := Ground.guard }], guard := some (14, true) }) (v := ?_) rfl (by kernel_rfl) (by kernel_rfl) (by kernel_rfl) (fun _ _ _ h => h) (Or.inl ⟨by rfl, ?_⟩) (by assumption) ?_
            rotate_left
            · ((intro w hSw; (try dsimp only at hSw); go_simp) <;> with_reducible rfl)
            try simp only [Act.put, List.setIfInBounds_toArray, List.set_cons_zero, List.set_cons_succ]
            refine wpAnyH_take (i := 16) (oi := { dst := some 89, op := Op.load 22 (Operand.tmp 88), type := 22, pos := "outright.go:261", after := #[{ on := 15, ground := Ground.data }, { on := 14, ground := Ground.guard }], guard := some (14, true) }) (v := ?_) rfl (by kernel_rfl) (by kernel_rfl) (by kernel_rfl) (fun _ _ _ h => h) (Or.inl ⟨by rfl, ?_⟩) (by assumption) ?_
            rotate_left
            · ((intro w hSw; (try dsimp only at hSw); go_simp) <;> with_reducible rfl)
            try simp only [Act.put, List.setIfInBounds_toArray, List.set_cons_zero, List.set_cons_succ]
            refine wpAnyH_take (i := 17) (oi := { dst := some 90, op := Op.move (Operand.tmp 14), type := 3, pos := "outright.go:261", after := #[{ on := 14, ground := Ground.guard }], guard := some (14, true) }) (v := ?_) rfl (by kernel_rfl) (by kernel_rfl) (by kernel_rfl) (fun _ _ _ h => h) (Or.inl ⟨by rfl, ?_⟩) (by assumption) ?_
            rotate_left
            · ((intro w hSw; (try dsimp only at hSw); go_simp) <;> with_reducible rfl)
            try simp only [Act.put, List.setIfInBounds_toArray, List.set_cons_zero, List.set_cons_succ]
            refine wpAnyH_take (i := 18) (oi := { dst := some 91, op := Op.indexAddr 22 (Operand.tmp 89) (Operand.tmp 90), type := 0, pos := "outright.go:261", after := #[{ on := 16, ground := Ground.data }, { on := 17, ground := Ground.data }, { on := 14, ground := Ground.guard }], guard := some (14, true) }) (v := ?_) rfl (by kernel_rfl) (by kernel_rfl) (by kernel_rfl) (fun _ _ _ h => h) (Or.inl ⟨by rfl, ?_⟩) (by assumption) ?_
            rotate_left
            · ((intro w hSw; (try dsimp only at hSw); go_simp) <;> with_reducible rfl)
            try simp only [Act.put, List.setIfInBounds_toArray, List.set_cons_zero, List.set_cons_succ]
            refine wpAnyH_take (i := 19) (oi := { dst := some 92, op := Op.load 34 (Operand.tmp 91), type := 34, pos := "outright.go:261", after := #[{ on := 18, ground := Ground.data }, { on := 14, ground := Ground.guard }], guard := some (14, true) }) (v := ?_) rfl (by kernel_rfl) (by kernel_rfl) (by kernel_rfl) (fun _ _ _ h => h) (Or.inl ⟨by rfl, ?_⟩) (by assumption) ?_
            rotate_left
            · ((intro w hSw; (try dsimp only at hSw); go_simp) <;> with_reducible rfl)
            try simp only [Act.put, List.setIfInBounds_toArray, List.set_cons_zero, List.set_cons_succ]
            refine wpAnyH_take (i := 20) (oi := { dst := some 93, op := Op.fieldAddr 24 (Operand.tmp 11) 3, type := 0, pos := "outright.go:261", after := #[{ on := 14, ground := Ground.guard }], guard := some (14, true) }) (v := ?_) rfl (by kernel_rfl) (by kernel_rfl) (by kernel_rfl) (fun _ _ _ h => h) (Or.inl ⟨by rfl, ?_⟩) (by assumption) ?_
            rotate_left
            · ((intro w hSw; (try dsimp only at hSw); go_simp) <;> with_reducible rfl)
            try simp only [Act.put, List.setIfInBounds_toArray, List.set_cons_zero, List.set_cons_succ]
            refine wpAnyH_take (i := 21) (oi := { dst := some 94, op := Op.load 22 (Operand.tmp 93), type := 22, pos := "outright.go:261", after := #[{ on := 20, ground := Ground.data }, { on := 14, ground := Ground.guard }], guard := some (14, true) }) (v := ?_) rfl (by kernel_rfl) (by kernel_rfl) (by kernel_rfl) (fun _ _ _ h => h) (Or.inl ⟨by rfl, ?_⟩) (by assumption) ?_
            rotate_left
            · ((intro w hSw; (try dsimp only at hSw); go_simp) <;> with_reducible rfl)
            try simp only [Act.put, List.setIfInBounds_toArray, List.set_cons_zero, List.set_cons_succ]
            refine wpAnyH_take (i := 22) (oi := { dst := some 95, op := Op.move (Operand.tmp 14), type := 3, pos := "outright.go:261", after := #[{ on := 14, ground := Ground.guard }], guard := some (14, true) }) (v := ?_) rfl (by kernel_rfl) (by kernel_rfl) (by kernel_rfl) (fun _ _ _ h => h) (Or.inl ⟨by rfl, ?_⟩) (by assumption) ?_
            rotate_left
            · ((intro w hSw; (try dsimp only at hSw); go_simp) <;> with_reducible rfl)
            try simp only [Act.put, List.setIfInBounds_toArray, List.set_cons_zero, List.set_cons_succ]
            refine wpAnyH_take (i := 23) (oi := { dst := some 96, op := Op.indexAddr 22 (Operand.tmp 94) (Operand.tmp 95), type := 0, pos := "outright.go:261", after := #[{ on := 21, ground := Ground.data }, { on := 22, ground := Ground.data }, { on := 14, ground := Ground.guard }], guard := some (14, true) }) (v := ?_) rfl (by kernel_rfl) (by kernel_rfl) (by kernel_rfl) (fun _ _ _ h => h) (Or.inl ⟨by rfl, ?_⟩) (by assumption) ?_
            rotate_left
            · ((intro w hSw; (try dsimp only at hSw); go_simp) <;> with_reducible rfl)
            try simp only [Act.put, List.setIfInBounds_toArray, List.set_cons_zero, List.set_cons_succ]
            refine wpAnyH_take (i := 24) (oi := { dst := some 97, op := Op.load 34 (Operand.tmp 96), type := 34, pos := "outright.go:261", after := #[{ on := 23, ground := Ground.data }, { on := 14, ground := Ground.guard }], guard := some (14, true) }) (v := ?_) rfl (by kernel_rfl) (by kernel_rfl) (by kernel_rfl) (fun _ _ _ h => h) (Or.inl ⟨by rfl, ?_⟩) (by assumption) ?_
            rotate_left
            · ((intro w hSw; (try dsimp only at hSw); go_simp) <;> with_reducible rfl)
            try simp only [Act.put, List.setIfInBounds_toArray, List.set_cons_zero, List.set_cons_succ]
            refine wpAnyH_ready (rs := [25]) (by kernel_rfl) (by simp) ?_
            refine AllReadyH.cons (o := { dst := some 98, op := Op.call { callee := Callee.value (Operand.func 43), args := #[Operand.tmp 92, Operand.tmp 97], argTypes := #[34, 34] }, type := 4, pos := "outright.go:261", after := #[{ on := 19, ground := Ground.data }, { on := 24, ground := Ground.data }, { on := 14, ground := Ground.chain }, { on := 14, ground := Ground.guard }], guard := some (14, true) }) rfl (fun K hK => ?_) AllReadyH.nil
            go_simp
            ((with_reducible refine (HW2b.out _ HC.out).mono ?_); rintro e wa ⟨rfl, hba⟩; clear HC k0 k1 k2 k3 k4 k5 k6 k7 k8; have HC := hba; clear hba; obtain ⟨k0, k1, k2, k3, k4, k5, k6, k7, k8⟩ := HSk.out _ HC.out)
            refine hK.out _ _ ?_ (fun hHeld => ?_)
            · (try dsimp only); (refine ⟨?_, ?_, ?_, ?_, ?_, ?_, ?_, ?_, ?_⟩ <;> assumption)
            clear hK K
            try simp only [Act.put, List.setIfInBounds_toArray, List.set_cons_zero, List.set_cons_succ]
            refine wpAnyH_take (i := 26) (oi := { dst := some 99, op := Op.unOp UnOp.not 4 (Operand.tmp 98), type := 4, pos := "outright.go:261", after := #[{ on := 25, ground := Ground.data }, { on := 14, ground := Ground.guard }], guard := some (14, true) }) (v := ?_) rfl (by kernel_rfl) (by kernel_rfl) (by kernel_rfl) (fun _ _ _ h => h) (Or.inl ⟨by rfl, ?_⟩) (by assumption) ?_
            rotate_left
            · ((intro w hSw; (try dsimp only at hSw); go_simp) <;> with_reducible rfl)
            try simp only [Act.put, List.setIfInBounds_toArray, List.set_cons_zero, List.set_cons_succ]
            refine wpAnyH_take (i := 27) (oi := { dst := some 100, op := Op.pick (Operand.tmp 87) (Operand.tmp 99) (Operand.const (Value.bool false)), type := 4, pos := "outright.go:261", after := #[{ on := 14, ground := Ground.data }, { on := 26, ground := Ground.data }, { on := 12, ground := Ground.guard }], guard := some (12, false) }) (v := ?_) rfl (by kernel_rfl) (by kernel_rfl) (by kernel_rfl) (fun _ _ _ h => h) (Or.inl ⟨by rfl, ?_⟩) (by assumption) ?_
            rotate_left
            · ((intro w hSw; (try dsimp only at hSw); go_simp) <;> with_reducible rfl)
            try simp only [Act.put, List.setIfInBounds_toArray, List.set_cons_zero, List.set_cons_succ]
            refine wpAnyH_take (i := 28) (oi := { dst := some 101, op := Op.pick (Operand.tmp 85) (Operand.const (Value.bool true)) (Operand.tmp 100), type := 4, pos := "outright.go:261", after := #[{ on := 12, ground := Ground.data }, { on := 27, ground := Ground.data }], guard := none }) (v := ?_) rfl (by kernel_rfl) (by kernel_rfl) (by kernel_rfl) (fun _ _ _ h => h) (Or.inl ⟨by rfl, ?_⟩) (by assumption) ?_
            rotate_left
            · ((intro w hSw; (try dsimp only at hSw); go_simp) <;> with_reducible rfl)
            try simp only [Act.put, List.setIfInBounds_toArray, List.set_cons_zero, List.set_cons_succ]
            refine wpAnyH_done (by kernel_rfl) ?_ _
            refine NoPanic.normal ?_
            go_wp2_with fail
            go_meet
            exact ⟨rfl, HC.out⟩
        case rest =>
          obtain ⟨rfl, hbe⟩ := hcut
          have HBe := Lib.hid (HBr.out.trans (hbe.mono HBr.out.size))
          clear hbe
          go_wp2_with fail
          go_roundw
          case rel => exact ⟨k + 1, by omega, by go_num, HBe.out⟩
          case measure => simp [intOf]; omega
      · clear hk
        have HKx := Lib.hid (HX8.out.below HBr.out HX8.out.lt)
        have HKd := Lib.hid (HD8.out.below HBr.out HD8.out.lt)
        have HGx := Lib.hid (HGx8.out.later HBr.out (Nat.le_refl _))
        obtain ⟨p0, p1, p2, p3⟩ := grid_parts HKx.out
        have y0 := HKd.out.cell 0
        simp only [List.getElem?_toArray, List.getElem?_cons_zero] at y0
        go_wp2_with fail
        refine (Tighten_any _ ⟨g.W, g.H, g.S, tt⟩ d _ HGx.out).mono ?_
        rintro e w9 ⟨x9, r9, rfl, hg9, hb9, uu, huu, hr9⟩
        have hck := tight_check HM1.out HTT.out HAll.out
        have hu := huu hck (by omega)
        have heq : uu = tt := tight_again HM1.out HTT.out HAll.out hu
        have hr' : r9 = (0, ⟨g.W, g.H, g.S, tt⟩) := by
          rw [hr9, heq]
          rcases tight_cases hck (d := d) (by omega) (heq ▸ hu) with ⟨_, c, hc, hlt⟩ | ⟨h, _⟩
          · have hc : c < tt.length := hc
            have := HAll.out c (by rw [← HL5.out]; exact hc)
            omega
          · exact h
        subst hr'
        clear huu hr9 hck hu heq
        have HB9 := Lib.hid (HBw.out.trans (hb9.mono HBw.out.size))
        have HK9 := Lib.hid (HKx.out.below hb9 HKx.out.lt)
        have HGx9 := Lib.hid (HGx.out.later hb9 (Nat.le_refl _))
        have HG9 := Lib.hid hg9
        obtain ⟨v9, rfl, hs9⟩ := hg9
        obtain ⟨B9, c9, rfl⟩ := hs9.open_len (L := g.ss.length) HL5.out
        clear hb9 hs9 p0 p1 p2 p3 y0
        go_upto_region 18 with (fail)
        obtain ⟨V9, hV9⟩ : ∃ V, w9.alloc (.cells #[.int .i64 g.W, .int .i64 g.H, .int .i64 g.S, .slice B9 g.ss.length c9] 24) = V := ⟨_, rfl⟩
        have HVB9 : Hid (Below w9.heap.size w9 V9) := by rw [← hV9]; exact (by repeat (first | exact Below.refl _ _ | assumption | refine Below.drew ?_ | refine Below.drewN' ?_ _ | (refine Below.alloc ?_ (by simp <;> omega) _) | (refine Below.setCell ?_ (by simp <;> omega) _)))
        have HVK9 : Hid (Blk V9 w9.heap.size 24 #[.int .i64 g.W, .int .i64 g.H, .int .i64 g.S, .slice B9 g.ss.length c9]) := by rw [← hV9]; exact Blk.new' _ _ _ rfl
        rw [hV9]
        clear hV9
        have HBV9 := Lib.hid (HB9.out.trans (HVB9.out.mono HB9.out.size))
        obtain ⟨p0, p1, p2, p3⟩ := grid_parts (HK9.out.below HVB9.out HK9.out.lt)
        obtain ⟨q0, q1, q2, q3⟩ := grid_parts HVK9.out
        go_wp2_with fail
        refine (grids_yes _ _ _ _ rfl _ (HG9.out.later HVB9.out (Nat.le_refl _)) (HGx9.out.later HVB9.out (Nat.le_refl _))).mono ?_
        rintro e w10 ⟨rfl, hb10⟩
        have HB10 := Lib.hid (HBV9.out.trans (hb10.mono HBV9.out.size))
        clear hb10 p0 p1 p2 p3 q0 q1 q2 q3
        go_wp2_with fail
        refine (works_any _ (HLV.out.below HB10.out)).mono ?_
        rintro e w11 ⟨rfl, hb11⟩
        have HB11 := Lib.hid (HB10.out.trans (hb11.mono HB10.out.size))
        clear hb11
        go_wp2
        go_ret
        exact ⟨rfl, HB11.out⟩
end Go.Proofs.YthcenmocnphnmaaGreatDoor
/-
  GridTight: for whatever land, step and terrain, the law returns true and its arguments read as they did (no condition).
-/
namespace Go.Proofs.YthcenmocnphnmaaGreatDoor
open Go.ChangeShapes Go.WideShapes Go.ChangeAt Go.WideMaps Go.WideElems Go.RowKit Go.Shelf

namespace GridTight
theorem laid_out : laidOutB Tryz.prog = true := by kernel_rfl
set_option maxRecDepth 100000 in
theorem lifted (os : Os) (started : os.Started) (H : Type) (enc : TypeId × Value → H) :
    ReturnsInHanded {} Tryz.checked os 11 .any (fun w args => (Rows.gridTightSpec.pre enc Tryz.prog Tryz.f11 [] false w args ∧ laidMetH Tryz.prog laidL w) ∧ sizedMet enc Tryz.prog Tryz.f11 (OpenSpec.ofChange Rows.gridTightSpec) false w args)
      (Rows.gridTightSpec.post enc Tryz.prog Tryz.f11 false true false false) := by
  refine ret_shaped (s := Rows.gridTightSpec) (conds := []) started (by kernel_rfl) Tryz.func11 #[.agg #[.int .u8 0, .int .u8 0, .slice none 0 0, .slice none 0 0], .int .u16 0, .slice none 0 0] (by kernel_rfl) (by kernel_rfl) (by kernel_rfl) ?_
  intro W base args ds gs before hval0 hW hlv
  have hval : ∀ (j : Nat) t v, Tryz.f11.params[j]? = some t → args[j]? = some v → Value.okWide Tryz.prog W .any base t v := hval0
  have hW' := hW
  obtain ⟨p, q, hA0, hV, rfl, _, _⟩ := hW
  have hA : DataW.TrodAll enc Tryz.prog W 0 (fun _ => true) true Tryz.f11.params.toList args.toList ds p := hA0
  rw [Tryz.params11] at hA hval
  obtain ⟨v0, v1, v2, d0, d1, d2, p0, p1, p2, rfl, rfl, rfl, h0, h1, h2⟩ := trodAll_three hA
  obtain ⟨rfl, rfl⟩ := trodVars_none hV
  obtain ⟨a0, b0, x0, y0, low0, more0, rfl, ha0, hb0, hx0, hy0, hlr0, hmr0⟩ := land_open (hval 0 64 v0 rfl rfl) h0
  obtain ⟨c1, rfl, hc1⟩ := u16_open (hval 1 78 v1 rfl rfl) h1
  obtain ⟨l2, hl2, hr2⟩ := u8s_open (hval 2 62 v2 rfl rfl) h2
  clear hA0 hval0 hA
  simp only [List.append_nil] at hW'
  have hlt : ∀ x ∈ p0 ++ p1 ++ p2, x.block < W.heap.size := fun x hx => by simpa using hW'.lt x hx
  have k0 : ∀ x ∈ p0, x.block < W.heap.size := fun x hx => hlt x (by simp [hx])
  have k1 : ∀ x ∈ p1, x.block < W.heap.size := fun x hx => hlt x (by simp [hx])
  have k2 : ∀ x ∈ p2, x.block < W.heap.size := fun x hx => hlt x (by simp [hx])
  refine (GridTight_any a0 b0 c1 x0 y0 v2 low0 more0 l2 W ha0 hb0 hc1 hx0 hy0 hl2 hlr0 hmr0 hr2 hlv).mono ?_
  rintro e W' ⟨rfl, bel⟩
  refine ⟨_, rfl, _, _, _, [], (p0 ++ (p1 ++ p2)), [], hW', ?_, ?_, ?_, bel.frame _, fun h => by cases h⟩
  · exact trodAll_mk1 (shut_bool Tryz.underlying4 true)
  · exact trodAll_mk3 (Below.trod laid_out (by kernel_rfl) (of_decide_eq_true (by kernel_rfl)) h0 bel k0) (Below.trod laid_out (by kernel_rfl) (of_decide_eq_true (by kernel_rfl)) h1 bel k1) (Below.trod laid_out (by kernel_rfl) (of_decide_eq_true (by kernel_rfl)) h2 bel k2)
  · rfl
set_option maxRecDepth 100000 in
theorem bare : Rows.GridTightSaid :=
  OpenClaim.holds_of_wide 11 Tryz.f11 rfl rfl rfl rfl rfl rfl rfl ⟨rfl, rfl, rfl, rfl, rfl⟩ rfl rfl rfl rfl rfl (by kernel_rfl) Tryz.func11 (by kernel_rfl)
    (of_decide_eq_true (by kernel_rfl)) (by unfold Func.isWrapper; first | (rw [if_pos (by decide +kernel)]; kernel_rfl) | (rw [if_neg (by decide +kernel)]; exact ⟨rfl, rfl⟩))
    (fun os started H enc _ => lifted os started H enc)
end GridTight
set_option maxRecDepth 100000 in
theorem GridTight_card : Rows.GridTightCardSaid :=
  Claim7.holds_tied_plain_at .later [] [.data, .data, .data, .sentinel, .sentinel, .listed, .data] true _ true
    GridTight.bare (fun _ h => by cases h) (by kernel_rfl) (fun _ h => by cases h) gridTight_row_tie rfl ⟨rfl, rfl⟩ (by kernel_rfl) rfl
    (fun f fn hf hfn => by
      obtain rfl : f = 11 := Option.some.inj ((show Tryz.prog.funcNamed "tidewall/tidewalllaw01.GridTight" = some 11 by kernel_rfl).symm.trans hf) |>.symm
      obtain rfl : fn = Tryz.f11 := (Option.some.inj (Tryz.func11.symm.trans hfn)).symm
      exact ⟨by kernel_rfl, fun j t ht => by
        rw [Tryz.params11] at ht
        have hm : t ∈ [64, 78, 62] := by simpa using Array.mem_of_getElem? ht
        have hall : ([64, 78, 62].all fun u => !Tryz.prog.wantsStandIn u) = true := by kernel_rfl
        exact (show Tryz.prog.wantsStandIn t = false by simpa using List.all_eq_true.1 hall t hm)⟩)
    (by kernel_rfl)
#print axioms GridTight_card
end Go.Proofs.YthcenmocnphnmaaGreatDoor
